package names_test

import (
	"math"
	"slices"
	"strings"
	"testing"

	"crannog/api"
	"crannog/names"
)

var (
	long16  = strings.Repeat("n", 16)
	long17  = strings.Repeat("n", 17)
	open120 = "/" + strings.Repeat(long16+"/", 7) // 120 bytes: the last name is empty
	deep8   = "/1/2/3/4/5/6/7/8"
)

// P4.1
func TestGood(t *testing.T) {
	for s, want := range map[string]api.Errno{
		"a": api.OK, "...": api.OK, ".lost": api.OK, "..a": api.OK, " ": api.OK, "\n": api.OK, "é\xff": api.OK, "\x01": api.OK, long16: api.OK,
		"": api.EINVAL, ".": api.EINVAL, "..": api.EINVAL, "/": api.EINVAL, "a/b": api.EINVAL, "a/": api.EINVAL, "\x00": api.EINVAL, "a\x00b": api.EINVAL,
		long17: api.ENAMETOOLONG, strings.Repeat("n", 5000): api.ENAMETOOLONG, "ééééééééé": api.ENAMETOOLONG,
		long17 + "/": api.EINVAL, long17 + "\x00": api.EINVAL,
	} {
		if got := names.Good(s); got != want {
			t.Errorf("Good(%q): %d, want %d", s, got, want)
		}
	}
}

// exact is a path of just so many bytes, of names that may be.
func exact(n int) string {
	var b strings.Builder
	for b.Len() < n {
		b.WriteString("/" + strings.Repeat("n", min(15, n-b.Len()-1)))
	}
	return b.String()
}

// P4.1
func TestSplit(t *testing.T) {
	for _, c := range []struct {
		path string
		want []string
		e    api.Errno
	}{
		{"/", nil, api.OK},
		{"/a", []string{"a"}, api.OK},
		{"/a/b", []string{"a", "b"}, api.OK},
		{"/.lost/c1a-3", []string{".lost", "c1a-3"}, api.OK},
		{deep8, []string{"1", "2", "3", "4", "5", "6", "7", "8"}, api.OK},
		{"/" + long16, []string{long16}, api.OK},
		{exact(120), strings.Split(exact(120)[1:], "/"), api.OK},
		{exact(121), nil, api.ENAMETOOLONG},
		{strings.Repeat("a", 121), nil, api.ENAMETOOLONG},
		{strings.Repeat("a", 120), nil, api.EINVAL},
		{"", nil, api.EINVAL},
		{"a", nil, api.EINVAL},
		{"a/b", nil, api.EINVAL},
		{"//", nil, api.EINVAL},
		{"/a/", nil, api.EINVAL},
		{"//a", nil, api.EINVAL},
		{"/a//b", nil, api.EINVAL},
		{"/.", nil, api.EINVAL},
		{"/a/..", nil, api.EINVAL},
		{"/a\x00", nil, api.EINVAL},
		{"/" + long17, nil, api.ENAMETOOLONG},
		{deep8 + "/9", nil, api.ENAMETOOLONG},
		{deep8 + "/", nil, api.ENAMETOOLONG},
		{"/////////", nil, api.ENAMETOOLONG},
		{"////////", nil, api.EINVAL},
		{"/../2/3/4/5/6/7/8/9", nil, api.ENAMETOOLONG},
		{"/" + long17 + "/..", nil, api.ENAMETOOLONG},
		{"/../" + long17, nil, api.EINVAL},
		{open120, nil, api.EINVAL},
		{open120 + "n", nil, api.ENAMETOOLONG},
	} {
		got, e := names.Split(c.path)
		if e != c.e || !slices.Equal(got, c.want) {
			t.Errorf("Split(%q): %q, %d", c.path, got, e)
		}
		if cap(got) != len(got) {
			t.Errorf("Split(%q): room behind the names", c.path)
		}
	}
	if n := len(open120); n != 120 {
		t.Error(n)
	}
}

// P4.1
func TestJoin(t *testing.T) {
	for _, c := range []struct {
		l    []string
		want string
		e    api.Errno
	}{
		{nil, "/", api.OK},
		{[]string{}, "/", api.OK},
		{[]string{"a"}, "/a", api.OK},
		{[]string{"a", "b"}, "/a/b", api.OK},
		{[]string{"1", "2", "3", "4", "5", "6", "7", "8"}, deep8, api.OK},
		{strings.Split(exact(120)[1:], "/"), exact(120), api.OK},
		{strings.Split(exact(121)[1:], "/"), "", api.ENAMETOOLONG},
		{make([]string, 9), "", api.ENAMETOOLONG},
		{[]string{"/", "2", "3", "4", "5", "6", "7", "8", "9"}, "", api.ENAMETOOLONG},
		{[]string{"1/2/3/4/5/6/7/8/9"}, "", api.ENAMETOOLONG},
		{[]string{"a/b"}, "", api.EINVAL},
		{[]string{"a/b", "c"}, "", api.EINVAL},
		{[]string{"a/"}, "", api.EINVAL},
		{[]string{"/"}, "", api.EINVAL},
		{[]string{""}, "", api.EINVAL},
		{[]string{"", ""}, "", api.EINVAL},
		{[]string{"a", ""}, "", api.EINVAL},
		{[]string{"", "a"}, "", api.EINVAL},
		{[]string{".."}, "", api.EINVAL},
		{[]string{"a\x00"}, "", api.EINVAL},
		{[]string{long17}, "", api.ENAMETOOLONG},
		{[]string{long17 + "/a"}, "", api.ENAMETOOLONG},
		{[]string{strings.Repeat("/", 500)}, "", api.ENAMETOOLONG},
	} {
		if got, e := names.Join(c.l...); got != c.want || e != c.e {
			t.Errorf("Join(%q): %q, %d", c.l, got, e)
		}
	}
}

// P4.1
func TestParent(t *testing.T) {
	for _, c := range []struct {
		path string
		dir  []string
		name string
		e    api.Errno
	}{
		{"/a", nil, "a", api.OK},
		{"/a/b", []string{"a"}, "b", api.OK},
		{deep8, []string{"1", "2", "3", "4", "5", "6", "7"}, "8", api.OK},
		{"/", nil, "", api.EBUSY},
		{"", nil, "", api.EINVAL},
		{"a/b", nil, "", api.EINVAL},
		{"/a/..", nil, "", api.EINVAL},
		{deep8 + "/9", nil, "", api.ENAMETOOLONG},
		{exact(121), nil, "", api.ENAMETOOLONG},
	} {
		dir, name, e := names.Parent(c.path)
		if e != c.e || name != c.name || !slices.Equal(dir, c.dir) {
			t.Errorf("Parent(%q): %q, %q, %d", c.path, dir, name, e)
		}
		if cap(dir) != len(dir) {
			t.Errorf("Parent(%q): room behind the names", c.path)
		}
	}
}

// P4.1
func TestWithin(t *testing.T) {
	for _, c := range []struct {
		l, top []string
		want   bool
	}{
		{nil, nil, true}, {nil, []string{}, true}, {[]string{"a"}, nil, true}, {nil, []string{"a"}, false}, {nil, []string{""}, false},
		{[]string{"a", "b"}, []string{"a"}, true}, {[]string{"a", "b"}, []string{"a", "b"}, true}, {[]string{"a", "b"}, []string{"b"}, false},
		{[]string{"a", "b"}, []string{"a", "c"}, false}, {[]string{"a"}, []string{"a", "b"}, false}, {[]string{"ab"}, []string{"a"}, false},
		{[]string{"a", "b"}, []string{"a/b"}, false}, {[]string{"x", "b"}, []string{"a", "b"}, false},
	} {
		if got := names.Within(c.l, c.top); got != c.want {
			t.Errorf("Within(%q, %q): %v", c.l, c.top, got)
		}
	}
	room := []string{"a", "b"}
	if names.Within(room[:1], room) {
		t.Error("looked at the room behind the names")
	}
}

// DOC, Memory: what is handed in stays, and no answer shares it or another one's room.
func TestMemory(t *testing.T) {
	room := []string{"a", "b", "c"}
	names.Join(room[:2]...)
	names.Within(room[:1], room[:2])
	if !slices.Equal(room, []string{"a", "b", "c"}) {
		t.Error(room)
	}
	one, _, _ := names.Parent("/a/b")
	two, _, _ := names.Parent("/a/b")
	one[0] = "x"
	_ = append(one, "y")
	if two[0] != "a" {
		t.Error("shared")
	}
}

// P4.2
func TestOdd(t *testing.T) {
	for _, c := range []struct {
		id   api.Stamp
		want string
	}{
		{api.Stamp{}, "c0-0"},
		{api.Stamp{Time: 26, Who: 3}, "c1a-3"},
		{api.Stamp{Time: 1, Who: 15}, "c1-f"},
		{api.Stamp{Time: 16, Who: 16}, "c10-0"},
		{api.Stamp{Time: 16, Who: 0xab}, "c10-b"},
		{api.Stamp{Time: 1, Who: -1}, "c1-f"},
		{api.Stamp{Time: 1, Who: math.MinInt}, "c1-0"},
		{api.Stamp{Time: api.MaxTime, Who: 7}, "c10000000000-7"},
		{api.Stamp{Time: 1<<48 - 1, Who: 7}, "cffffffffffff-7"},
		{api.Stamp{Time: 1 << 48, Who: 7}, "c000000000000-7"},
		{api.Stamp{Time: 0x123456789abcdef0, Who: 7}, "c56789abcdef0-7"},
		{api.Stamp{Time: -1, Who: 7}, "cffffffffffff-7"},
		{api.Stamp{Time: -2, Who: 7}, "cfffffffffffe-7"},
		{api.Stamp{Time: math.MaxInt, Who: 7}, "cffffffffffff-7"},
		{api.Stamp{Time: math.MinInt, Who: 7}, "c000000000000-7"},
	} {
		if got := names.Odd(c.id); got != c.want {
			t.Errorf("Odd(%v): %q, want %q", c.id, got, c.want)
		}
	}
}

// P4.2
func TestOf(t *testing.T) {
	for _, time := range []int{0, 1, 9, 10, 15, 16, 26, 255, 256, api.MaxTime, 1<<48 - 1} {
		for who := range 16 {
			id := api.Stamp{Time: time, Who: who}
			if got, ok := names.Of(names.Odd(id)); got != id || !ok {
				t.Error("not back:", id, got, ok)
			}
		}
	}
	for _, s := range []string{
		"", "c", "c-", "c1-", "c-1", "-", "1a-3", "c1a3", "c1a", "c1a-", "c1a-33", "c1a-10", "c1a-g", "c1a-A", "c1A-3", "C1a-3",
		"c01-3", "c00-3", "c1g-3", "c+1-3", "c1-+3", "c-1-3", "c1--3", "c1a-3 ", " c1a-3", "c1a-3-", "c1_a-3", "c0x1-3", "c1a-03",
		"c000000000000-7", "c1000000000000-7", "c10000000000000000-7", "cfffffffffffffffff-7", "c1a-3\x00", "c١-3", strings.Repeat("c", 5000),
	} {
		if got, ok := names.Of(s); got != (api.Stamp{}) || ok {
			t.Errorf("Of(%q): %v, %v", s, got, ok)
		}
	}
}

// P4.3, P4.5
func TestBack(t *testing.T) {
	for _, path := range []string{"/", "/a", "/a/b", deep8, "/.lost/c1a-3", exact(119), exact(120), "/" + long16 + "/é"} {
		l, e := names.Split(path)
		if e != api.OK {
			t.Fatal(path, e)
		}
		back, e := names.Join(l...)
		if back != path || e != api.OK {
			t.Error("not back:", path, back, e)
		}
		again, e := names.Split(back)
		if !slices.Equal(again, l) || e != api.OK {
			t.Error("not back:", l, again, e)
		}
		if path == "/" {
			continue
		}
		dir, name, e := names.Parent(path)
		if whole, f := names.Join(append(dir, name)...); whole != path || e != api.OK || f != api.OK {
			t.Error("not its parent's:", path, dir, name)
		}
		if !names.Within(l, dir) {
			t.Error("not within:", l, dir)
		}
	}
}

// P4.4
func TestApart(t *testing.T) {
	ids := map[string]api.Stamp{}
	for shift := range 48 {
		for _, time := range []int{1 << shift, 1<<shift - 1, 1<<shift + 3} {
			for who := range 16 {
				id := api.Stamp{Time: time % (1 << 48), Who: who}
				s := names.Odd(id)
				if old, ok := ids[s]; ok && old != id {
					t.Error("alike:", old, id, s)
				}
				ids[s] = id
			}
		}
	}
	for _, time := range []int{0, 1, -1, 1 << 48, math.MaxInt, math.MinInt, 0x123456789abcdef0} {
		for _, who := range []int{0, 7, 15, 16, -1, math.MaxInt, math.MinInt} {
			if s := names.Odd(api.Stamp{Time: time, Who: who}); names.Good(s) != api.OK {
				t.Errorf("no name: %q", s)
			}
		}
	}
}
