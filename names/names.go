// Package names is layer 4: see ../../shared/doc/04-names.md.
package names

import (
	"slices"
	"strconv"
	"strings"

	"crannog/api"
)

const (
	slash     = "/"
	oddHead   = "c" // ahead of an event's name
	oddMid    = "-" // between its time and whose it is
	hex       = 16
	oddDigits = 12 // of a time, at most
)

// Good tells whether a text is a name.
func Good(s string) api.Errno {
	switch {
	case s == "" || s == "." || s == ".." || strings.ContainsAny(s, "/\x00"):
		return api.EINVAL
	case len(s) > api.MaxName:
		return api.ENAMETOOLONG
	}
	return api.OK
}

// Split is the names of a path, from the root on.
func Split(path string) ([]string, api.Errno) {
	if len(path) > api.MaxPath {
		return nil, api.ENAMETOOLONG
	}
	rest, ok := strings.CutPrefix(path, slash)
	if !ok {
		return nil, api.EINVAL
	}
	if rest == "" {
		return nil, api.OK
	}
	l := strings.Split(rest, slash)
	if len(l) > api.MaxDeep {
		return nil, api.ENAMETOOLONG
	}
	for _, s := range l {
		if err := Good(s); err != api.OK {
			return nil, err
		}
	}
	return first(l, len(l)), api.OK
}

// first is the first names of a list, with the room behind them cut off: what is put behind them stands elsewhere.
func first(l []string, n int) []string { return l[:n:n] }

// Join is the path of names.
func Join(l ...string) (string, api.Errno) {
	if len(l) > api.MaxDeep {
		return "", api.ENAMETOOLONG
	}
	path := slash + strings.Join(l, slash)
	back, err := Split(path)
	if err != api.OK {
		return "", err
	}
	if !slices.Equal(back, l) {
		return "", api.EINVAL
	}
	return path, api.OK
}

// Parent is the names of a path's directory, and its own.
func Parent(path string) ([]string, string, api.Errno) {
	l, err := Split(path)
	if err != api.OK {
		return nil, "", err
	}
	if len(l) == 0 {
		return nil, "", api.EBUSY
	}
	last := len(l) - 1
	return first(l, last), l[last], api.OK
}

// Within tells whether names begin with others.
func Within(l, top []string) bool {
	return len(l) >= len(top) && slices.Equal(l[:len(top)], top)
}

// Odd is the name of an event, under which a conflict stands.
func Odd(id api.Stamp) string {
	time := strconv.FormatUint(uint64(id.Time), hex)
	time = time[max(0, len(time)-oddDigits):]
	return oddHead + time + oddMid + strconv.FormatUint(uint64(id.Who)%hex, hex)
}

// Of is the event that has a name; false: there is none.
func Of(s string) (api.Stamp, bool) {
	rest, _ := strings.CutPrefix(s, oddHead)
	time, who, _ := strings.Cut(rest, oddMid)
	id := api.Stamp{Time: number(time), Who: number(who)}
	if Odd(id) != s { // an event has one name: noughts ahead, capitals, more digits are none
		return api.Stamp{}, false
	}
	return id, true
}

// number is that of hexadecimal digits; 0 of others, which Odd never writes so.
func number(digits string) int {
	n, err := strconv.ParseUint(digits, hex, 4*oddDigits)
	if err != nil {
		return 0
	}
	return int(n)
}
