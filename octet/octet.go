// Package octet is layer 1: see ../../shared/doc/01-octet.md.
package octet

import (
	"math"

	"crannog/api"
)

const (
	maxWidth = 8         // bytes of a number
	textHead = 2         // bytes ahead of a text that tell its length
	maxText  = 1<<16 - 1 // the greatest length that those tell
)

// Put is bytes with a number behind them, in so many: its lowest ones.
func Put(b []byte, n, width int) []byte {
	if width < 1 || width > maxWidth {
		width = 0
	}
	out := with(b, width)
	for i := range width {
		out = append(out, byte(uint64(n)>>(8*(width-1-i))))
	}
	return out
}

// PutText is bytes with a text behind them, ahead of it in two bytes how long it is; one above 65535 bytes is cut there.
func PutText(b []byte, s string) []byte {
	s = s[:min(len(s), maxText)]
	out := with(b, textHead+len(s))
	out = append(out, byte(len(s)>>8), byte(len(s)))
	return append(out, s...)
}

// with is bytes once more, with room behind them: who hands bytes in may go on with the room behind those.
func with(b []byte, room int) []byte {
	return append(make([]byte, 0, len(b)+room), b...)
}

// Eye is what is left of bytes that are looked at.
type Eye struct {
	at *sight // shared by an eye's copies, so that they end with the looking, too
}

// sight is how far a looking has come.
type sight struct {
	rest  string
	ended bool
	why   api.Errno
}

// end ends the looking; what ended it first stays.
func (a *sight) end(why api.Errno) {
	if !a.ended {
		a.ended, a.why = true, why
	}
}

// close ends the looking that was left with what was thrown (nil: with nothing), and throws on what is not its own.
func (a *sight) close(thrown any) api.Errno {
	if a.rest != "" {
		a.end(api.EFORM)
	}
	a.end(api.OK)
	a.rest = ""
	// One looking may go on inside another one: what the outer eye throws is not the inner one's.
	if thrown != nil && thrown != any(a) {
		panic(thrown)
	}
	return a.why
}

// Read looks at bytes, from their beginning to their end; the first thing that can't be ends it.
func Read(b []byte, look func(e *Eye)) (err api.Errno) {
	at := &sight{rest: string(b)}
	defer func() { err = at.close(recover()) }()
	if look != nil {
		look(&Eye{at})
	}
	return
}

// open is what the eye looks at; nil: it doesn't look, or not any more.
func (e *Eye) open() *sight {
	if e == nil || e.at == nil || e.at.ended {
		return nil
	}
	return e.at
}

// Fail ends the looking with an error.
func (e *Eye) Fail(why api.Errno) {
	if at := e.open(); at != nil {
		at.end(why)
		panic(at)
	}
}

// Left is how many bytes are left.
func (e *Eye) Left() int {
	if at := e.open(); at != nil {
		return len(at.rest)
	}
	return 0
}

// Raw is the next bytes.
func (e *Eye) Raw(n int) string {
	at := e.open()
	if at == nil {
		return ""
	}
	if n < 0 || n > len(at.rest) {
		e.Fail(api.EFORM)
	}
	raw := at.rest[:n]
	at.rest = at.rest[n:]
	return raw
}

// Num is the next number, in so many bytes.
func (e *Eye) Num(width int) int {
	if width < 1 || width > maxWidth {
		e.Fail(api.EINVAL)
		return 0
	}
	raw := e.Raw(width)
	n := uint64(0)
	for i := range len(raw) {
		n = n<<8 | uint64(raw[i])
	}
	if n > math.MaxInt64 {
		e.Fail(api.EFORM)
	}
	return int(n)
}

// Text is the next text, of so many bytes at most.
func (e *Eye) Text(most int) string {
	n := e.Num(textHead)
	if n > most {
		e.Fail(api.ELONG)
	}
	return e.Raw(n)
}

// Shared is how many bytes two texts begin alike.
func Shared(a, b string) int {
	most := min(len(a), len(b))
	for i := range most {
		if a[i] != b[i] {
			return i
		}
	}
	return most
}

// After is the least text above one.
func After(s string) string { return s + "\x00" }

// Beyond is the least text above all that begin with one; false: there is none.
func Beyond(s string) (string, bool) {
	last := len(s) - 1
	for last >= 0 && s[last] == math.MaxUint8 {
		last--
	}
	if last < 0 {
		return "", false
	}
	return s[:last] + string([]byte{s[last] + 1}), true
}
