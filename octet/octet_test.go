package octet_test

import (
	"bytes"
	"errors"
	"math"
	"slices"
	"strings"
	"testing"

	"crannog/api"
	"crannog/octet"
)

// P1.1
func TestPut(t *testing.T) {
	const n = 0x0102030405060708
	for _, c := range []struct {
		b        string
		n, width int
		want     string
	}{
		{"", 258, 3, "\x00\x01\x02"},
		{"ab", 258, 3, "ab\x00\x01\x02"},
		{"ab", n, 1, "ab\x08"},
		{"", n, 2, "\x07\x08"},
		{"", n, 3, "\x06\x07\x08"},
		{"", n, 4, "\x05\x06\x07\x08"},
		{"", n, 5, "\x04\x05\x06\x07\x08"},
		{"", n, 6, "\x03\x04\x05\x06\x07\x08"},
		{"", n, 7, "\x02\x03\x04\x05\x06\x07\x08"},
		{"", n, 8, "\x01\x02\x03\x04\x05\x06\x07\x08"},
		{"", math.MaxInt, 8, "\x7f\xff\xff\xff\xff\xff\xff\xff"},
		{"", -1, 8, strings.Repeat("\xff", 8)},
		{"", math.MinInt, 8, "\x80\x00\x00\x00\x00\x00\x00\x00"},
		{"", -2, 2, "\xff\xfe"},
		{"ab", n, 0, "ab"},
		{"ab", n, -1, "ab"},
		{"ab", n, 9, "ab"},
		{"ab", n, math.MaxInt, "ab"},
		{"ab", n, math.MinInt, "ab"},
		{"", n, 0, ""},
	} {
		if got := octet.Put([]byte(c.b), c.n, c.width); string(got) != c.want {
			t.Errorf("Put(%q, %d, %d): %q, want %q", c.b, c.n, c.width, got, c.want)
		}
	}
	if got := octet.Put(nil, 7, 1); string(got) != "\x07" {
		t.Errorf("Put of nil: %q", got)
	}
}

// P1.1
func TestPutText(t *testing.T) {
	full := strings.Repeat("x", 65535)
	for _, c := range []struct{ b, s, want string }{
		{"", "", "\x00\x00"},
		{"ab", "", "ab\x00\x00"},
		{"ab", "cd", "ab\x00\x02cd"},
		{"", strings.Repeat("y", 258), "\x01\x02" + strings.Repeat("y", 258)},
		{"", full, "\xff\xff" + full},
		{"", full + "y", "\xff\xff" + full},
		{"z", full + full + full, "z\xff\xff" + full},
	} {
		if got := octet.PutText([]byte(c.b), c.s); string(got) != c.want {
			t.Errorf("PutText(%q, %d bytes): %d bytes", c.b, len(c.s), len(got))
		}
	}
}

// DOC, Memory: what is handed in stays, the room behind it too, and no answer shares it.
func TestPutMemory(t *testing.T) {
	for name, put := range map[string]func(b []byte) []byte{
		"Put":       func(b []byte) []byte { return octet.Put(b, 7, 2) },
		"Put none":  func(b []byte) []byte { return octet.Put(b, 7, 0) },
		"Put large": func(b []byte) []byte { return octet.Put(b, 7, 9) },
		"PutText":   func(b []byte) []byte { return octet.PutText(b, "cd") },
	} {
		room := []byte("abXXXXXXXXXXXXXX")
		one := put(room[:2])
		two := put(room[:2])
		for _, l := range [][]byte{one, two} {
			l = l[:cap(l)]
			for i := range l {
				l[i] = '?'
			}
			if string(room) != "abXXXXXXXXXXXXXX" {
				t.Errorf("%s: %q", name, room)
			}
		}
		three := put(room[:2])
		want := string(three)
		room[0] = 'z'
		if string(three) != want {
			t.Errorf("%s: shared: %q", name, three)
		}
	}
}

// P1.2
func TestRead(t *testing.T) {
	for _, c := range []struct {
		name string
		b    string
		look func(e *octet.Eye)
		want api.Errno
	}{
		{"nothing looks at nothing", "", nil, api.OK},
		{"nothing looks", "a", nil, api.EFORM},
		{"no bytes", "", func(e *octet.Eye) {}, api.OK},
		{"all left", "a", func(e *octet.Eye) {}, api.EFORM},
		{"some left", "\x00\x01\x02", func(e *octet.Eye) { e.Num(2) }, api.EFORM},
		{"all", "\x00\x01\x02", func(e *octet.Eye) { e.Num(3) }, api.OK},
		{"failed", "a", func(e *octet.Eye) { e.Fail(api.EBUSY) }, api.EBUSY},
		{"failed at the end", "a", func(e *octet.Eye) { e.Raw(1); e.Fail(api.EBUSY) }, api.EBUSY},
		{"failed with OK", "a", func(e *octet.Eye) { e.Fail(api.OK) }, api.OK},
		{"the first one", "a", func(e *octet.Eye) { e.Raw(2); e.Fail(api.EBUSY) }, api.EFORM},
		{"the first one of throws", "a", func(e *octet.Eye) {
			defer e.Fail(api.EPERM)
			e.Fail(api.EBUSY)
		}, api.EBUSY},
		{"caught on the way", "a", func(e *octet.Eye) {
			func() {
				defer func() { recover() }()
				e.Fail(api.EBUSY)
			}()
			e.Fail(api.EPERM)
		}, api.EBUSY},
		{"caught, with OK", "a", func(e *octet.Eye) {
			defer func() { recover() }()
			e.Fail(api.OK)
		}, api.OK},
	} {
		if got := octet.Read([]byte(c.b), c.look); got != c.want {
			t.Errorf("%s: %d, want %d", c.name, got, c.want)
		}
	}
}

// P1.2: nothing behind what ended the looking is done.
func TestReadStops(t *testing.T) {
	for i, look := range []func(e *octet.Eye){
		func(e *octet.Eye) { e.Fail(api.OK) },
		func(e *octet.Eye) { e.Fail(api.EBUSY) },
		func(e *octet.Eye) { e.Raw(-1) },
		func(e *octet.Eye) { e.Raw(3) },
		func(e *octet.Eye) { e.Num(0) },
		func(e *octet.Eye) { e.Num(3) },
		func(e *octet.Eye) { e.Text(0) },
	} {
		octet.Read([]byte("\x00\x01"), func(e *octet.Eye) {
			look(e)
			t.Error("done behind the end: ", i)
		})
	}
}

// thrown is what look throws, as who called Read sees it.
func thrown(look func(e *octet.Eye)) (what any) {
	defer func() { what = recover() }()
	octet.Read([]byte("a"), look)
	return nil
}

// P1.2: what look throws otherwise goes on.
func TestReadThrowsOn(t *testing.T) {
	mine := errors.New("mine")
	for _, what := range []any{mine, "text", 7, api.EFORM, []int{1}, map[string]int{}, struct{}{}} {
		got := thrown(func(e *octet.Eye) { panic(what) })
		switch got.(type) {
		case []int, map[string]int:
		default:
			if got != what {
				t.Errorf("threw %v, came %v", what, got)
			}
		}
		if got == nil {
			t.Errorf("%v did not go on", what)
		}
	}
	if got := thrown(func(e *octet.Eye) {
		defer func() {
			recover()
			panic(mine)
		}()
		e.Fail(api.EBUSY)
	}); got != mine {
		t.Error("thrown behind a fail: ", got)
	}
	if thrown(func(e *octet.Eye) { e.Fail(api.EBUSY) }) != nil {
		t.Error("a fail goes on")
	}
	var old any
	octet.Read(nil, func(e *octet.Eye) {
		defer func() { old = recover() }()
		e.Fail(api.EBUSY)
	})
	if got := thrown(func(e *octet.Eye) { panic(old) }); got != old {
		t.Error("another looking's throw is taken for one's own: ", got)
	}
}

// P1.2, P1.3: one looking inside another one.
func TestReadNested(t *testing.T) {
	behind := false
	outer := octet.Read([]byte("ab"), func(e *octet.Eye) {
		inner := octet.Read([]byte("cd"), func(f *octet.Eye) {
			if e.Raw(1) != "a" || f.Raw(1) != "c" {
				t.Error("wrong bytes")
			}
			f.Fail(api.EPERM)
		})
		if inner != api.EPERM || e.Left() != 1 {
			t.Error(inner, e.Left())
		}
		octet.Read([]byte("cd"), func(f *octet.Eye) {
			f.Raw(2)
			e.Fail(api.EBUSY)
		})
		behind = true
	})
	if outer != api.EBUSY || behind {
		t.Error(outer, behind)
	}
}

// P1.2: the eye has the bytes that b had, and leaves b as it is.
func TestReadMemory(t *testing.T) {
	b := []byte("abcd")
	e := octet.Read(b[:3], func(e *octet.Eye) {
		b[1] = 'X'
		if e.Left() != 3 || e.Raw(3) != "abc" {
			t.Error("not the bytes")
		}
		b[1] = 'b'
	})
	if e != api.OK || string(b) != "abcd" {
		t.Error(e, string(b))
	}
}

// P1.3
func TestEye(t *testing.T) {
	b := []byte("abc\x01\x02\x03\x00\x02de\x00\x00")
	e := octet.Read(b, func(e *octet.Eye) {
		if e.Left() != 12 || e.Raw(0) != "" || e.Raw(3) != "abc" || e.Left() != 9 {
			t.Error("Raw")
		}
		if n := e.Num(1); n != 1 {
			t.Error("Num", n)
		}
		if n := e.Num(2); n != 0x203 || e.Left() != 6 {
			t.Error("Num", n)
		}
		if s := e.Text(2); s != "de" || e.Left() != 2 {
			t.Error("Text", s)
		}
		if s := e.Text(0); s != "" || e.Left() != 0 || e.Raw(0) != "" {
			t.Error("Text", s)
		}
	})
	if e != api.OK {
		t.Error(e)
	}
}

// P1.3
func TestEyeErrors(t *testing.T) {
	for _, c := range []struct {
		name string
		b    string
		look func(e *octet.Eye)
		want api.Errno
	}{
		{"Raw below 0", "abc", func(e *octet.Eye) { e.Raw(-1) }, api.EFORM},
		{"Raw least", "abc", func(e *octet.Eye) { e.Raw(math.MinInt) }, api.EFORM},
		{"Raw too many", "abc", func(e *octet.Eye) { e.Raw(4) }, api.EFORM},
		{"Raw most", "abc", func(e *octet.Eye) { e.Raw(math.MaxInt) }, api.EFORM},
		{"Raw behind others", "abc", func(e *octet.Eye) { e.Raw(2); e.Raw(2) }, api.EFORM},
		{"Raw all", "abc", func(e *octet.Eye) { e.Raw(3) }, api.OK},
		{"Num of 0 bytes", "abc", func(e *octet.Eye) { e.Num(0) }, api.EINVAL},
		{"Num below 0", "abc", func(e *octet.Eye) { e.Num(-1) }, api.EINVAL},
		{"Num of 9 bytes", "abc", func(e *octet.Eye) { e.Num(9) }, api.EINVAL},
		{"Num too many", "abc", func(e *octet.Eye) { e.Num(4) }, api.EFORM},
		{"Num of nothing", "", func(e *octet.Eye) { e.Num(1) }, api.EFORM},
		{"Num great", "\x7f\xff\xff\xff\xff\xff\xff\xff", func(e *octet.Eye) {
			if n := e.Num(8); n != math.MaxInt64 {
				t.Error(n)
			}
		}, api.OK},
		{"Num too great", "\x80\x00\x00\x00\x00\x00\x00\x00", func(e *octet.Eye) { e.Num(8) }, api.EFORM},
		{"Num of a negative one", strings.Repeat("\xff", 8), func(e *octet.Eye) { e.Num(8) }, api.EFORM},
		{"Text without a length", "\x00", func(e *octet.Eye) { e.Text(9) }, api.EFORM},
		{"Text too short", "\x00\x02a", func(e *octet.Eye) { e.Text(2) }, api.EFORM},
		{"Text too long", "\x00\x02ab", func(e *octet.Eye) { e.Text(1) }, api.ELONG},
		{"Text too long and too short", "\x00\x02a", func(e *octet.Eye) { e.Text(1) }, api.ELONG},
		{"Text of less than nothing", "\x00\x00", func(e *octet.Eye) { e.Text(-1) }, api.ELONG},
		{"Text as long as may be", "\x00\x02ab", func(e *octet.Eye) { e.Text(math.MaxInt) }, api.OK},
		{"example", "\x00\x01\x02", func(e *octet.Eye) { e.Num(2) }, api.EFORM},
	} {
		if got := octet.Read([]byte(c.b), c.look); got != c.want {
			t.Errorf("%s: %d, want %d", c.name, got, c.want)
		}
	}
}

// blind tells whether an eye answers nothing, and throws nothing.
func blind(t *testing.T, name string, e *octet.Eye) {
	t.Helper()
	defer func() {
		if r := recover(); r != nil {
			t.Error(name, "threw")
		}
	}()
	for _, n := range []int{math.MinInt, -1, 0, 1, 2, 8, 9, math.MaxInt} {
		if e.Num(n) != 0 || e.Raw(n) != "" || e.Text(n) != "" || e.Left() != 0 {
			t.Error(name, "answers at", n)
		}
	}
	e.Fail(api.EBUSY)
	e.Fail(api.OK)
}

// P1.3: an eye whose looking has ended, and one that Read did not make.
func TestEyeBlind(t *testing.T) {
	blind(t, "nil", nil)
	blind(t, "made by hand", &octet.Eye{})
	var kept *octet.Eye
	var copied octet.Eye
	b := []byte("\x00\x01\x02\x03")
	for name, look := range map[string]func(e *octet.Eye){
		"all read": func(e *octet.Eye) { e.Raw(4) },
		"left":     func(e *octet.Eye) { e.Raw(1) },
		"failed":   func(e *octet.Eye) { e.Fail(api.EBUSY) },
		"threw":    func(e *octet.Eye) { panic("thrown") },
		"failed, still looked by": func(e *octet.Eye) {
			defer blind(t, "behind a fail", e)
			e.Fail(api.EBUSY)
		},
	} {
		func() {
			defer func() { recover() }()
			octet.Read(b, func(e *octet.Eye) {
				kept, copied = e, *e
				look(e)
			})
		}()
		blind(t, name, kept)
		blind(t, name+", copied", &copied)
	}
}

// P1.4
func TestShared(t *testing.T) {
	for _, c := range []struct {
		a, b string
		want int
	}{
		{"", "", 0}, {"", "a", 0}, {"a", "b", 0}, {"abc", "abd", 2}, {"abc", "abc", 3},
		{"ab", "abc", 2}, {"xab", "yab", 0}, {"\xff\x00", "\xff\x01", 1}, {"é", "è", 1},
	} {
		if octet.Shared(c.a, c.b) != c.want || octet.Shared(c.b, c.a) != c.want {
			t.Errorf("Shared(%q, %q): %d", c.a, c.b, octet.Shared(c.a, c.b))
		}
	}
}

// P1.4
func TestAfterBeyond(t *testing.T) {
	for s, want := range map[string]string{"": "\x00", "a": "a\x00", "\xff": "\xff\x00", "a\x00": "a\x00\x00"} {
		if got := octet.After(s); got != want {
			t.Errorf("After(%q): %q", s, got)
		}
	}
	for _, c := range []struct {
		s, want string
		ok      bool
	}{
		{"", "", false}, {"\xff", "", false}, {"\xff\xff\xff", "", false},
		{"a", "b", true}, {"a\xff", "b", true}, {"a\xff\xff", "b", true}, {"\xfe", "\xff", true},
		{"a\xfe", "a\xff", true}, {"\xff\x00", "\xff\x01", true}, {"\xffa\xff", "\xffb", true},
		{"\x7f", "\x80", true}, {"a\xfe\xff", "a\xff", true}, {"\x00", "\x01", true},
	} {
		if got, ok := octet.Beyond(c.s); got != c.want || ok != c.ok {
			t.Errorf("Beyond(%q): %q, %v", c.s, got, ok)
		}
	}
}

// P1.5
func TestBack(t *testing.T) {
	for width := 1; width <= 8; width++ {
		most := math.MaxInt64 >> (63 - min(63, 8*width))
		for _, n := range []int{0, 1, 0x7f, 0x80, 0xff, most / 3, most - 1, most} {
			n = min(n, most)
			b := octet.PutText(octet.Put([]byte("?"), n, width), "text")
			if e := octet.Read(b, func(e *octet.Eye) {
				if e.Raw(1) != "?" || e.Num(width) != n || e.Text(4) != "text" {
					t.Error("not back:", n, width)
				}
			}); e != api.OK {
				t.Error(n, width, e)
			}
		}
	}
	for _, n := range []int{0, 1, 255, 256, 65534, 65535} {
		s := strings.Repeat("\xff", n)
		if e := octet.Read(octet.PutText(nil, s), func(e *octet.Eye) {
			if e.Text(n) != s {
				t.Error("not back:", n)
			}
		}); e != api.OK {
			t.Error(n, e)
		}
	}
}

// P1.6
func TestOrder(t *testing.T) {
	for width := 1; width <= 8; width++ {
		most := math.MaxInt64 >> (63 - min(63, 8*width))
		l := []int{0, 1, 2, 127, 128, 254, 255, most / 257, most / 2, most - 1, most}
		for shift := 0; shift < 8*width-1; shift++ {
			l = append(l, 1<<shift)
		}
		slices.Sort(l)
		l = slices.Compact(l)
		for i, n := range l[1:] {
			if bytes.Compare(octet.Put(nil, l[i], width), octet.Put(nil, n, width)) >= 0 {
				t.Error("not in order:", l[i], n, width)
			}
		}
	}
}

// texts is all of so many of some bytes at most.
func texts(most int) []string {
	l := []string{""}
	for from := 0; most > 0; most-- {
		to := len(l)
		for _, s := range l[from:to] {
			for _, b := range []string{"\x00", "\x01", "a", "\xfe", "\xff"} {
				l = append(l, s+b)
			}
		}
		from = to
	}
	return l
}

// P1.7
func TestLeast(t *testing.T) {
	all := texts(4)
	for _, s := range texts(2) {
		after := octet.After(s)
		beyond, ok := octet.Beyond(s)
		if after <= s || ok && beyond <= s {
			t.Errorf("%q: not above", s)
		}
		for _, x := range all {
			if s < x && x < after {
				t.Errorf("%q stands between %q and After", x, s)
			}
			if s <= x && (!ok || x < beyond) != strings.HasPrefix(x, s) {
				t.Errorf("%q: %q is on the wrong side of Beyond", s, x)
			}
		}
	}
}
