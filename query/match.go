package query

import "strings"

const (
	many = "*" // any bytes, none too
	one  = '?' // any one
)

// Match tells whether a name is what a pattern says: * any bytes, ? any one.
func Match(pattern, name string) bool {
	part, rest, more := strings.Cut(pattern, many)
	if !more {
		return len(part) == len(name) && begins(name, part)
	}
	if !begins(name, part) {
		return false
	}
	name = name[len(part):]
	for {
		part, rest, more = strings.Cut(rest, many)
		if !more { // the last part stands at the end
			return len(part) <= len(name) && begins(name[len(name)-len(part):], part)
		}
		// The first place that does leaves the most for the parts behind.
		at := seek(name, part)
		if at < 0 {
			return false
		}
		name = name[at+len(part):]
	}
}

// begins tells whether a name begins with a part of a pattern, which has no stars.
func begins(name, part string) bool {
	if len(part) > len(name) {
		return false
	}
	for i := range len(part) {
		if part[i] != one && part[i] != name[i] {
			return false
		}
	}
	return true
}

// seek is the first place in a name at which a part of a pattern stands; -1: there is none.
func seek(name, part string) int {
	if strings.IndexByte(part, one) < 0 {
		return strings.Index(name, part)
	}
	for at := range len(name) - len(part) + 1 {
		if begins(name[at:], part) {
			return at
		}
	}
	return -1
}
