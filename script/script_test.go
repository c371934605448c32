package script_test

import (
	"fmt"
	"math"
	"math/rand"
	"slices"
	"strings"
	"testing"

	"crannog/api"
	"crannog/script"
)

// same tells whether two steps are, bit by bit.
func same(a, b api.Step) bool {
	x, y := math.Float64bits(a.Call.Time), math.Float64bits(b.Call.Time)
	if math.IsNaN(a.Call.Time) && math.IsNaN(b.Call.Time) {
		y = x
	}
	a.Call.Time, b.Call.Time = 0, 0
	return x == y && a.Kind == b.Kind && a.Rep == b.Rep && a.Vol == b.Vol && a.To == b.To && a.N == b.N && slices.Equal(a.Keep, b.Keep) && a.Call == b.Call
}

// bare is a step without what its line does not have, by the document's words written once more.
func bare(s api.Step) api.Step {
	b := api.Step{Kind: s.Kind, Rep: s.Rep}
	switch s.Kind {
	case api.SCall:
		b.Vol, b.Call = s.Vol, bareCall(s.Call)
	case api.SSnap, api.SClone:
		b.Vol, b.To = s.Vol, s.To
	case api.SDelete, api.SPrune:
		b.Vol = s.Vol
	case api.SDeliver, api.SDrop, api.SDouble:
		b.Rep, b.N = 0, s.N
	case api.SFuse:
		b.N = s.N
	case api.SCrash:
		b.Keep = s.Keep
	}
	return b
}

func bareCall(c api.Call) api.Call {
	b := api.Call{Kind: c.Kind, Path: c.Path}
	switch c.Kind {
	case api.CMkdir, api.CCreate:
		b.N, b.Time = c.N, c.Time
	case api.CSymlink:
		b.To, b.N, b.Time = c.To, c.N, c.Time
	case api.CLink, api.CRename, api.CDelx, api.CGetx:
		b.To = c.To
	case api.CWrite:
		b.Off, b.Data = c.Off, c.Data
	case api.CTruncate, api.CChmod:
		b.N = c.N
	case api.CUtime:
		b.Time = c.Time
	case api.CSetx:
		b.To, b.Data = c.To, c.Data
	case api.CRead:
		b.Off, b.N = c.Off, c.N
	}
	return b
}

// full is a step that has all there is, of a kind, and of a kind of call.
func full(kind, call int) api.Step {
	c := api.Call{Kind: call, Path: "/a b", To: "/t", Off: 7, N: -8, Data: "d%", Time: 9}
	return api.Step{Kind: kind, Rep: 1, Vol: "v 0", To: "s,", N: 3, Keep: []int{4, -5, 4}, Call: c}
}

// lines is each kind's line of a full step, but of a call; calls those of each kind of call.
var (
	lines = []string{
		api.SSnap:    "snap 1 v%200 s,",
		api.SClone:   "clone 1 v%200 s,",
		api.SDelete:  "delete 1 v%200",
		api.SCommit:  "commit 1",
		api.STick:    "tick 1",
		api.SDeliver: "deliver 3",
		api.SDrop:    "drop 3",
		api.SDouble:  "double 3",
		api.SCrash:   "crash 1 4 -5 4",
		api.SFuse:    "fuse 1 3",
		api.SStart:   "start 1",
		api.SPrune:   "prune 1 v%200",
	}
	calls = []string{
		api.CMkdir:    "mkdir /a%20b -8 9",
		api.CCreate:   "create /a%20b -8 9",
		api.CLink:     "link /a%20b /t",
		api.CSymlink:  "symlink /a%20b /t -8 9",
		api.CUnlink:   "unlink /a%20b",
		api.CRmdir:    "rmdir /a%20b",
		api.CRename:   "rename /a%20b /t",
		api.CWrite:    "write /a%20b 7 d%25",
		api.CTruncate: "truncate /a%20b -8",
		api.CChmod:    "chmod /a%20b -8",
		api.CUtime:    "utime /a%20b 9",
		api.CSetx:     "setx /a%20b /t d%25",
		api.CDelx:     "delx /a%20b /t",
		api.CRead:     "read /a%20b 7 -8",
		api.CList:     "list /a%20b",
		api.CReadlink: "readlink /a%20b",
		api.CStat:     "stat /a%20b",
		api.CGetx:     "getx /a%20b /t",
		api.CListx:    "listx /a%20b",
	}
)

// P23.2, P23.3, P23.5
func TestEachKind(t *testing.T) {
	one := func(s api.Step, want string) {
		t.Helper()
		line, err := script.Text(s)
		is(t, want, line, want)
		is(t, want, err, api.OK)
		back, err := script.Line(want)
		is(t, want, err, api.OK)
		if !same(back, bare(s)) {
			t.Errorf("%s: %v, want %v", want, back, bare(s))
		}
	}
	for kind := api.SSnap; kind <= api.SPrune; kind++ {
		one(full(kind, api.CUtime), lines[kind])
	}
	for kind := api.CMkdir; kind <= api.CListx; kind++ {
		one(full(api.SCall, kind), "call 1 v%200 "+calls[kind])
	}
	// The zero ones: an empty text has a word, too; no Keep has none.
	one(api.Step{Kind: api.SCrash}, "crash 0")
	one(api.Step{Kind: api.SSnap}, "snap 0 % %")
	one(api.Step{Kind: api.SCall, Call: api.Call{Kind: api.CWrite}}, "call 0 % write % 0 %")
	one(api.Step{Kind: api.SFuse, Rep: math.MinInt, N: math.MaxInt}, "fuse -9223372036854775808 9223372036854775807")
	for _, x := range []float64{math.NaN(), math.Inf(1), math.Inf(-1), math.Copysign(0, -1), 0, -3, 1 << 53, -1 << 53} {
		word, _ := script.Time(x)
		one(api.Step{Kind: api.SCall, Vol: "v0", Call: api.Call{Kind: api.CUtime, Path: "/", Time: x}}, "call 0 v0 utime / "+word)
		one(api.Step{Kind: api.SCall, Vol: "v0", Call: api.Call{Kind: api.CSymlink, Path: "/", To: "x", Time: x}}, "call 0 v0 symlink / x 0 "+word)
	}
}

// P23.3
func TestTextRefused(t *testing.T) {
	none := func(s api.Step) {
		t.Helper()
		if line, err := script.Text(s); line != "" || err != api.ELINE {
			t.Errorf("%v: %q, %v", s, line, err)
		}
	}
	for _, kind := range []int{0, -1, 14, math.MaxInt, math.MinInt} {
		none(full(kind, api.CStat))
		none(full(kind, 0))
	}
	for _, kind := range []int{0, -1, 20, math.MaxInt, math.MinInt} {
		none(full(api.SCall, kind))
		line, err := script.Text(full(api.STick, kind)) // it has no call
		is(t, "of another kind", line, "tick 1")
		is(t, "of another kind", err, api.OK)
	}
	for kind := api.CMkdir; kind <= api.CListx; kind++ {
		for _, x := range []float64{0.5, -0.25, 1<<53 + 2, -1e300, math.SmallestNonzeroFloat64} {
			s := full(api.SCall, kind)
			s.Call.Time = x
			switch kind {
			case api.CMkdir, api.CCreate, api.CSymlink, api.CUtime:
				none(s)
			default: // it has no time
				line, err := script.Text(s)
				is(t, "without a time", line, "call 1 v%200 "+calls[kind])
				is(t, "without a time", err, api.OK)
			}
		}
	}
}

// P23.3
func TestLineRefused(t *testing.T) {
	for _, line := range []string{
		"", " ", "  ", "call", "call 0", "call 0 v0", "call 0 v0 ", "call 0 v0 fly", "call 0 v0 fly /a", "Call 0 v0 list /", "call 0 v0 List /", "%63all 0 v0 list /",
		"fly", "fly 0", "snap", "snap 0 v0", "snap 0 v0 s x", "snap 0 v0 s ", " snap 0 v0 s", "snap  0 v0 s", "snap 0  v0 s", "snap 0 v0  s", "snap 0 v0 ", "snap\t0 v0 s", "snap 0 v0 s\n", "snap 0 v0 s\r",
		"commit", "commit ", "commit 0 ", "commit 0 0", "commit x", "commit -0", "commit 00", "commit +0", "commit 9223372036854775808", "commit 0x0", "commit %30",
		"deliver", "deliver 0 1", "crash", "crash ", "crash 0 ", "crash 0  1", "crash 0 x", "crash 0 1 02", "fuse 0", "fuse 0 1 2", "tick x",
		"call 0 v0 mkdir /a 493", "call 0 v0 mkdir /a 493 0 0", "call 0 v0 mkdir /a 0493 0", "call 0 v0 mkdir /a 493 x", "call 0 v0 mkdir /a 493 ", "call 0 v0 write /a 0", "call 0 v0 write /a 0 ", "call 0 v0 write /a 0 d d", "call 0 v0 write /a x d",
		"call 0 v0 utime /a 1.5", "call 0 v0 utime /a 1e3", "call 0 v0 utime /a 00", "call 0 v0 utime /a -00", "call 0 v0 utime /a +0", "call 0 v0 utime /a None", "call 0 v0 utime /a NaN", "call 0 v0 utime /a +Inf", "call 0 v0 utime /a %", "call 0 v0 utime /a",
		"call 0 v0 utime /a 9007199254740993", "call 0 v0 utime /a 9007199254740994", "call 0 v0 utime /a -9007199254740993", "call 0 v0 utime /a 9223372036854775807", "call 0 v0 utime /a 9223372036854775808", "call 0 v0 utime /a -9223372036854775808",
		"call 0 v0 list /%2F", "call 0 v0 list /%2", "call 0 v0 list /%", "call 0 v0 list %%", "call 0 v0 list %2525%", "call 0 v0 list /%2f", "call 0 v0 list /%61", "call 0 v0 list %g0", "call 0 v0 list %+1", "call 0 v0 list %-1", "call 0 v0 list % 1", "call 0 v0 list %fF", "call 0 v0 list %0", "call 0 v0 list %a", "call 0 v0 list a=b", "call 0 v0 list \xff", "call 0 v0 list \u00e9", "call 0 v0 list #", "call 0 v0 list ~",
		"# a remark", "call -0 v0 list /", "call none v0 list /", "prune 0", "prune 0 v0 s", "delete 0", "drop x", "double -0", "start", "start 0 0",
	} {
		if s, err := script.Line(line); err != api.ELINE || !same(s, api.Step{}) {
			t.Errorf("%q: %v, %v", line, s, err)
		}
	}
	for _, line := range []string{"call 0 v0 list %00", "call 0 v0 list %25", "call 0 v0 list %2525", "call 0 v0 list %c3%a9", "commit -1", "commit 9223372036854775807", "crash 0", "call 0 % list %", "call 0 v0 list a,b:c+d?e*"} {
		if _, err := script.Line(line); err != api.OK {
			t.Errorf("%q: %v", line, err)
		}
	}
}

// P23.3: a line has 200 bytes at most; what is said of a step may have more
func TestLongLine(t *testing.T) {
	const head = "call 0 v0 list "
	at := head + strings.Repeat("a", api.MaxLine-len(head))
	s, err := script.Line(at)
	is(t, "of 200 bytes", err, api.OK)
	is(t, "of 200 bytes", s.Call.Path, at[len(head):])
	s, err = script.Line(at + "a")
	is(t, "of 201 bytes", err, api.ELINE)
	is(t, "of 201 bytes", same(s, api.Step{}), true)
	long := api.Step{Kind: api.SCall, Vol: "v0", Call: api.Call{Kind: api.CList, Path: at[len(head):] + "a"}}
	line, err := script.Text(long)
	is(t, "the text", line, at+"a")
	is(t, "the text", err, api.OK)
	_, err = script.Line("crash 0" + strings.Repeat(" 1", 96))
	is(t, "of 199 bytes", err, api.OK)
	_, err = script.Line("crash 0" + strings.Repeat(" 1", 97))
	is(t, "of 201 bytes", err, api.ELINE)
}

// P23.4
func TestLines(t *testing.T) {
	for _, c := range []struct {
		s      string
		lines  []string
		places []int
	}{
		{"", nil, nil}, {"\n", nil, nil}, {"\n\n\n", nil, nil}, {"#", nil, nil}, {"#a\n#\n", nil, nil},
		{"a", []string{"a"}, []int{1}}, {"a\n", []string{"a"}, []int{1}}, {"\na", []string{"a"}, []int{2}},
		{"a\nb", []string{"a", "b"}, []int{1, 2}}, {"a\n\n#x\nb\n\n", []string{"a", "b"}, []int{1, 4}},
		{" # x\n", []string{" # x"}, []int{1}}, {" \n\t\n", []string{" ", "\t"}, []int{1, 2}}, {"a#\nb\r\n", []string{"a#", "b\r"}, []int{1, 2}}, {"a\x00b\n\xff", []string{"a\x00b", "\xff"}, []int{1, 2}},
	} {
		for range 2 {
			l, places := script.Lines(c.s)
			if !slices.Equal(l, c.lines) || !slices.Equal(places, c.places) || (l == nil) != (c.lines == nil) || (places == nil) != (c.places == nil) {
				t.Errorf("%q: %q %v", c.s, l, places)
			}
			clear(l)
			clear(places)
		}
	}
	l, places := script.Lines(strings.Repeat("a\n\n", 50000))
	if len(l) != 50000 || len(places) != 50000 || places[49999] != 99999 {
		t.Error(len(l), len(places))
	}
}

// P23.4
func TestParse(t *testing.T) {
	for _, c := range []struct {
		s     string
		n     int
		place int
		err   api.Errno
	}{
		{"", 0, 0, api.OK}, {"# nothing\n\n", 0, 0, api.OK}, {"commit 0", 1, 0, api.OK}, {"commit 0\ncommit 1\n", 2, 0, api.OK},
		{"# a world\n\ncommit 0\n#\ntick 1", 2, 0, api.OK}, {"x", 0, 1, api.ELINE}, {"commit 0\n\n#\nx\ny\n", 0, 4, api.ELINE}, {"commit 0\n commit 0\n", 0, 2, api.ELINE},
		{"commit 0\r\n", 0, 1, api.ELINE}, {"world 2 1 300\n", 0, 1, api.ELINE}, {"commit 0\n" + strings.Repeat("a", 201), 0, 2, api.ELINE},
		{strings.Repeat("tick 1\n", api.MaxScript/7), api.MaxScript / 7, 0, api.OK}, {strings.Repeat("\n", api.MaxScript-8) + "commit 0", 1, 0, api.OK},
		{strings.Repeat("\n", api.MaxScript-7) + "commit 0", 0, 0, api.ELONG}, {"#" + strings.Repeat("a", api.MaxScript-1), 0, 0, api.OK}, {"#" + strings.Repeat("a", api.MaxScript), 0, 0, api.ELONG},
		{"x\n" + strings.Repeat("\n", api.MaxScript), 0, 0, api.ELONG},
	} {
		l, place, err := script.Parse(c.s)
		if len(l) != c.n || place != c.place || err != c.err || c.n == 0 && l != nil {
			t.Errorf("%.40q: %d %d %v", c.s, len(l), place, err)
		}
	}
	l, _, _ := script.Parse("snap 0 v0 s\n# that is all\ncrash 1 2 3\n")
	if len(l) != 2 || !same(l[0], api.Step{Kind: api.SSnap, Vol: "v0", To: "s"}) || !same(l[1], api.Step{Kind: api.SCrash, Rep: 1, Keep: []int{2, 3}}) {
		t.Error(l)
	}
}

// P23.4
func TestPrint(t *testing.T) {
	bad := api.Step{Kind: 99}
	half := api.Step{Kind: api.SCall, Call: api.Call{Kind: api.CUtime, Time: 0.5}}
	good := api.Step{Kind: api.SCrash, Rep: 1, Keep: []int{2}}
	for _, c := range []struct {
		l     []api.Step
		s     string
		place int
		err   api.Errno
	}{
		{nil, "", 0, api.OK}, {[]api.Step{}, "", 0, api.OK}, {[]api.Step{good}, "crash 1 2\n", 0, api.OK}, {[]api.Step{good, {Kind: api.STick}, good}, "crash 1 2\ntick 0\ncrash 1 2\n", 0, api.OK},
		{[]api.Step{bad}, "", 0, api.ELINE}, {[]api.Step{good, half, bad}, "", 1, api.ELINE}, {[]api.Step{good, good, {}}, "", 2, api.ELINE},
	} {
		s, place, err := script.Print(c.l)
		is(t, "text", s, c.s)
		is(t, "place", place, c.place)
		is(t, "error", err, c.err)
	}
	s, _, err := script.Print(slices.Repeat([]api.Step{good}, 100000)) // more than may be read
	is(t, "bytes", len(s), 1000000)
	is(t, "error", err, api.OK)
}

// anyStep is any that a line can say; it has what its line does not have, too.
func anyStep(r *rand.Rand) api.Step {
	text := func() string {
		const signs = "ab/.%0 1f\n\x00\xff\xc3\xa9#*=~"
		b := make([]byte, r.Intn(7))
		for i := range b {
			b[i] = signs[r.Intn(len(signs))]
		}
		return string(b)
	}
	number := func() int { return int(r.Uint64()>>r.Intn(64)) * (1 - 2*r.Intn(2)) }
	s := full(1+r.Intn(13), 1+r.Intn(19))
	if r.Intn(2) == 0 {
		s.Kind = api.SCall
	}
	s.Rep, s.Vol, s.To, s.N, s.Keep = number(), text(), text(), number(), nil
	for range r.Intn(4) {
		s.Keep = append(s.Keep, number())
	}
	s.Call.Path, s.Call.To, s.Call.Data, s.Call.Off, s.Call.N = text(), text(), text(), number(), number()
	s.Call.Time = []float64{math.NaN(), math.Inf(1), math.Inf(-1), math.Copysign(0, -1), 1 << 53, float64(r.Intn(1000) - 500)}[r.Intn(6)]
	return s
}

// P23.5
func TestBack(t *testing.T) {
	r := rand.New(rand.NewSource(23))
	for range 50000 {
		s := anyStep(r)
		line, err := script.Text(s)
		if err != api.OK || len(line) > api.MaxLine {
			t.Fatalf("%v: %q, %v", s, line, err)
		}
		back, err := script.Line(line)
		if err != api.OK || !same(back, bare(s)) {
			t.Fatalf("%q: %v, %v", line, back, err)
		}
		again, err := script.Text(back)
		if err != api.OK || again != line {
			t.Fatalf("%q: %q, %v", line, again, err)
		}
	}
	var l []api.Step
	for range 300 {
		l = append(l, bare(anyStep(r)))
	}
	text, _, err := script.Print(l)
	is(t, "Print", err, api.OK)
	back, _, err := script.Parse(text)
	if err != api.OK || !slices.EqualFunc(back, l, same) {
		t.Error("Parse of Print:", err)
	}
}

// P23.5: whatever is read as a line is just what would be written
func TestSpoilt(t *testing.T) {
	r := rand.New(rand.NewSource(5))
	const signs = "ab/.%02 1f\n-+cde\xff"
	read := 0
	for range 200000 {
		line, _ := script.Text(anyStep(r))
		b := []byte(line)
		for range 1 + r.Intn(2) {
			i := r.Intn(len(b))
			switch c := signs[r.Intn(len(signs))]; r.Intn(3) {
			case 0:
				b[i] = c
			case 1:
				b = slices.Insert(b, i, c)
			case 2:
				b = slices.Delete(b, i, i+1)
			}
		}
		s, err := script.Line(string(b))
		if err != api.OK {
			if err != api.ELINE || !same(s, api.Step{}) {
				t.Fatalf("%q: %v, %v", b, s, err)
			}
			continue
		}
		read++
		if back, err := script.Text(s); err != api.OK || back != string(b) {
			t.Fatalf("%q: %q, %v", b, back, err)
		}
	}
	if read < 1000 {
		t.Error("just", read, "were read")
	}
}

// DOC, Memory
func TestMemory(t *testing.T) {
	keep := append(make([]int, 0, 9), 1, 2)
	l := append(make([]api.Step, 0, 4), api.Step{Kind: api.SCrash, Keep: keep})
	for range 2 {
		s, _, _ := script.Print(l)
		is(t, "Print", s, "crash 0 1 2\n")
		a, _ := script.Line("crash 0 1 2")
		b, _ := script.Line("crash 0 1 2")
		clear(a.Keep[:cap(a.Keep)])
		is(t, "another one's", fmt.Sprint(b.Keep), "[1 2]")
		p, _, _ := script.Parse("crash 0 1\ncrash 0 2\n")
		_ = append(p[0].Keep, 7)
		is(t, "one's beside it", fmt.Sprint(p[1].Keep), "[2]")
	}
	is(t, "the room behind it", fmt.Sprint(keep[:9], l[:4][1].Kind), "[1 2 0 0 0 0 0 0 0] 0")
}
