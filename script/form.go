package script

import (
	"slices"
	"strconv"
	"strings"

	"crannog/api"
)

const blank = " " // between two words

// fault is what a line throws that can't be.
type fault struct{ err api.Errno }

// demand throws, unless what a line has can be.
func demand(ok bool) {
	if !ok {
		panic(fault{api.ELINE})
	}
}

// caught does something with a line: the error that is thrown.
func caught(do func()) (err api.Errno) {
	defer func() {
		switch thrown := recover().(type) {
		case nil:
		case fault:
			err = thrown.err
		default: // no line's, but a fault of the program: it is not hidden
			panic(thrown)
		}
	}()
	do()
	return api.OK
}

// form is how those of a kind stand in a line: a word, and a sign for each thing behind it.
type form struct{ word, has string }

// stepForms is those of steps, from kind 1 on; callForms those of calls.
func stepForms() []form {
	return []form{
		{"call", "RVC"},
		{"snap", "RVT"},
		{"clone", "RVT"},
		{"delete", "RV"},
		{"commit", "R"},
		{"tick", "R"},
		{"deliver", "N"},
		{"drop", "N"},
		{"double", "N"},
		{"crash", "RK"},
		{"fuse", "RN"},
		{"start", "R"},
		{"prune", "RV"},
	}
}

func callForms() []form {
	return []form{
		{"mkdir", "pnm"},
		{"create", "pnm"},
		{"link", "pt"},
		{"symlink", "ptnm"},
		{"unlink", "p"},
		{"rmdir", "p"},
		{"rename", "pt"},
		{"write", "pod"},
		{"truncate", "pn"},
		{"chmod", "pn"},
		{"utime", "pm"},
		{"setx", "ptd"},
		{"delx", "pt"},
		{"read", "pon"},
		{"list", "p"},
		{"readlink", "p"},
		{"stat", "p"},
		{"getx", "pt"},
		{"listx", "p"},
	}
}

// hand goes along a line: it writes there what a step has, or has the step be what is read there.
type hand interface {
	kind(k *int, of []form) (has string)
	text(s *string)
	number(n *int)
	numbers(l *[]int)
	time(x *float64)
}

// step goes along a step's line.
func step(h hand, s *api.Step) { along(h, s, h.kind(&s.Kind, stepForms())) }

// along goes along what a line has, sign by sign: capitals are of the step's own, others of its call.
func along(h hand, s *api.Step, has string) {
	for _, sign := range has {
		switch sign {
		case 'R':
			h.number(&s.Rep)
		case 'V':
			h.text(&s.Vol)
		case 'T':
			h.text(&s.To)
		case 'N':
			h.number(&s.N)
		case 'K':
			h.numbers(&s.Keep)
		case 'C':
			along(h, s, h.kind(&s.Call.Kind, callForms()))
		case 'p':
			h.text(&s.Call.Path)
		case 't':
			h.text(&s.Call.To)
		case 'o':
			h.number(&s.Call.Off)
		case 'n':
			h.number(&s.Call.N)
		case 'd':
			h.text(&s.Call.Data)
		case 'm':
			h.time(&s.Call.Time)
		}
	}
}

// writer writes a line.
type writer struct{ strings.Builder }

func (w *writer) put(word string) {
	if w.Len() > 0 {
		w.WriteString(blank)
	}
	w.WriteString(word)
}

func (w *writer) kind(k *int, of []form) string {
	demand(*k >= 1 && *k <= len(of))
	f := of[*k-1]
	w.put(f.word)
	return f.has
}

func (w *writer) text(s *string) { w.put(Word(*s)) }

func (w *writer) number(n *int) { w.put(strconv.Itoa(*n)) }

func (w *writer) numbers(l *[]int) {
	for _, n := range *l {
		w.number(&n)
	}
}

func (w *writer) time(x *float64) {
	word, ok := Time(*x)
	demand(ok)
	w.put(word)
}

// reader reads a line: the words that are left of it.
type reader struct{ words []string }

func (r *reader) next() string {
	demand(len(r.words) > 0)
	word := r.words[0]
	r.words = r.words[1:]
	return word
}

func (r *reader) kind(k *int, of []form) string {
	word := r.next()
	i := slices.IndexFunc(of, func(f form) bool { return f.word == word })
	demand(i >= 0)
	*k = i + 1
	return of[i].has
}

func (r *reader) text(s *string) {
	var ok bool
	*s, ok = textOf(r.next())
	demand(ok)
}

func (r *reader) number(n *int) {
	var ok bool
	*n, ok = Number(r.next())
	demand(ok)
}

func (r *reader) numbers(l *[]int) {
	for len(r.words) > 0 {
		var n int
		r.number(&n)
		*l = append(*l, n)
	}
}

func (r *reader) time(x *float64) {
	var ok bool
	*x, ok = timeOf(r.next())
	demand(ok)
}
