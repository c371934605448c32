package query_test

import (
	"math"
	"slices"
	"strconv"
	"strings"
	"testing"

	"crannog/api"
	"crannog/facts"
	"crannog/instant"
	"crannog/query"
)

func stamp(time, who int) api.Stamp { return api.Stamp{Time: time, Who: who} }

var (
	root = api.Stamp{}
	lost = stamp(0, 1)
	seen = api.Vector{500, 500, 500}
)

// inode is one of 0 as a directory, of 1 as a file, of 2 as a symlink, of a time.
func inode(id api.Stamp, time float64) api.Inode {
	k, _ := instant.Of(time)
	n := api.Inode{Id: id, Kind: api.Dir, Attr: api.Attr{At: id, Mode: 0o750, Time: k}}
	switch id.Who {
	case 1:
		n.Kind, n.Size.At = api.File, id
	case 2:
		n.Kind, n.Text = api.Sym, "/d/e"
	}
	return n
}

// link is one that is alive, where its event placed it.
func link(id, node, parent api.Stamp, name string) api.Link {
	l := api.Link{Id: id, Node: node, At: id, Parent: parent, Name: name}
	l.Alive[id.Who] = id.Time
	return l
}

// What stands in the town below.
var d, e, f, s, x, g, gone, d2 = stamp(1, 0), stamp(2, 0), stamp(3, 1), stamp(4, 2), stamp(5, 0), stamp(6, 1), stamp(7, 1), stamp(30, 0)

/*
town is a volume, made by hand:

	/!             a symlink (s), the same as s
	/d             a directory, moved to its name behind x: that one is /.lost/c5-0
	/d/e           a directory, in which nothing is
	/d/f2          the same file as f
	/f             a file of 70 bytes, with xattrs a, b that is gone, z that is empty
	/s             a symlink
	/.lost/c5-0    a directory (x)
	/.lost/c5-0/g  a file (g)

gone is a file that was unlinked.
*/
func town() api.State {
	v := facts.Empty()
	v.Seen = seen
	v.Nodes = append(v.Nodes, inode(d, 1), inode(e, 2), inode(f, -3), inode(s, 0), inode(x, math.Inf(1)), inode(g, math.Inf(-1)), inode(gone, 1))
	n := &v.Nodes[3]
	n.Size.N = 70
	n.Pieces = []api.Piece{{Index: 0, At: f, Data: "abc"}, {Index: 1, At: f, Data: "uvwxyz!"}}
	n.Xattrs = []api.Xattr{{Name: "a", At: f, Val: "1"}, {Name: "b", At: f, Gone: true}, {Name: "z", At: f}}
	v.Links = []api.Link{
		link(d, d, root, "d"), link(e, e, d, "e"), link(f, f, root, "f"), link(s, s, root, "s"), link(x, x, root, "d"),
		link(g, g, x, "g"), link(gone, gone, root, "gone"), link(stamp(8, 1), f, d, "f2"), link(stamp(9, 2), s, root, "!"),
	}
	v.Links[0].At = d2
	v.Links[6].Dead = seen
	return v
}

// bad is the town, as it may not be.
func bad() api.State {
	v := town()
	v.Links[0].Name = "/"
	return v
}

var wantTree = []api.Found{
	{Path: "/!", Node: s, Kind: api.Sym}, {Path: "/.lost", Node: lost, Kind: api.Dir},
	{Path: "/.lost/c5-0", Node: x, Kind: api.Dir}, {Path: "/.lost/c5-0/g", Node: g, Kind: api.File},
	{Path: "/d", Node: d, Kind: api.Dir}, {Path: "/d/e", Node: e, Kind: api.Dir}, {Path: "/d/f2", Node: f, Kind: api.File},
	{Path: "/f", Node: f, Kind: api.File}, {Path: "/s", Node: s, Kind: api.Sym},
}

// chain is a volume of so many directories, one in the other, each of the name of 16 bytes.
func chain(n int) api.State {
	v := facts.Empty()
	v.Seen = seen
	for i := 1; i <= n; i++ {
		v.Nodes = append(v.Nodes, inode(stamp(i, 0), float64(i)))
		v.Links = append(v.Links, link(stamp(i, 0), stamp(i, 0), stamp(i-1, 0), strings.Repeat("n", 16)))
	}
	return v
}

// P14.1
func TestTree(t *testing.T) {
	v := town()
	was := facts.Clone(v)
	l := query.Tree(v)
	if !slices.Equal(l, wantTree) || !facts.Same(v, was) {
		t.Error(l)
	}
	clear(l[:cap(l)])
	if !slices.Equal(query.Tree(v), wantTree) {
		t.Error("two answers share memory")
	}
	if l := query.Tree(facts.Empty()); !slices.Equal(l, wantTree[1:2]) {
		t.Error(l)
	}
	if query.Tree(bad()) != nil || query.Tree(api.State{}) != nil {
		t.Error("of what may not be")
	}
}

// P14.1: paths are however long.
func TestTreeLong(t *testing.T) {
	l := query.Tree(chain(479))
	if len(l) != 480 {
		t.Fatal(len(l))
	}
	for i, f := range l[1:] {
		if f.Path != strings.Repeat("/"+strings.Repeat("n", 16), i+1) || f.Node != stamp(i+1, 0) || f.Kind != api.Dir {
			t.Fatal(i, f)
		}
	}
}

// P14.2, P14.7, with the chapter's example.
func TestMatch(t *testing.T) {
	for _, c := range []struct {
		pattern, name string
		want          bool
	}{
		{"a*c", "abc", true}, {"a?c", "ac", false}, {"a*c", "ac", true}, {"a?c", "abc", true}, {"a?c", "abbc", false}, {"a*c", "abcd", false}, {"a*c", "xabc", false},
		{"", "", true}, {"", "a", false}, {"a", "", false}, {"a", "a", true}, {"a", "A", false}, {"a", "ab", false}, {"ab", "a", false},
		{"*", "", true}, {"*", "abc", true}, {"***", "", true}, {"***", "abc", true}, {"?", "", false}, {"?", "a", true}, {"?", "ab", false},
		{"??", "é", true}, {"?", "é", false}, {"?", "\xff", true}, {"?", "/", true}, {"?", "\x00", true}, {"?", "*", true}, {"*", "*", true},
		{"*a", "a", true}, {"*a", "ba", true}, {"*a", "ab", false}, {"a*", "a", true}, {"a*", "ab", true}, {"a*", "ba", false},
		{"a*a", "a", false}, {"a*a", "aa", true}, {"ab*ba", "aba", false}, {"ab*ba", "abba", true}, {"*?", "", false}, {"?*", "a", true}, {"*?*", "a", true}, {"?*?", "a", false},
		{"*ab*cd*", "abcd", true}, {"*ab*cd*", "acbd", false}, {"*ab*cd*", "cdab", false}, {"*a?b*b", "aabb", true}, {"*a?b*b", "aab", false}, {"*a?b*b", "aaabbb", true},
		{"*ab", "aab", true}, {"*aab", "aaab", true}, {"*a*b", "aaac", false}, {"a*b*c", "abxc", true}, {"a*b*c", "acx", false}, {"a**c", "abc", true},
		{"a.c", "abc", false}, {"[a]", "a", false}, {"[a]", "[a]", true}, {"\\*", "*", false}, {"\\*", "\\x", true},
	} {
		if query.Match(c.pattern, c.name) != c.want {
			t.Errorf("%q of %q: %v", c.name, c.pattern, !c.want)
		}
	}
}

// fits tells the same by the document's words: of a star any beginning is passed over.
func fits(pattern, name string) bool {
	if pattern == "" {
		return name == ""
	}
	if pattern[0] != '*' {
		return name != "" && (pattern[0] == '?' || pattern[0] == name[0]) && fits(pattern[1:], name[1:])
	}
	for i := range len(name) + 1 {
		if fits(pattern[1:], name[i:]) {
			return true
		}
	}
	return false
}

// rows is all texts of the signs of one, of at most so many bytes.
func rows(signs string, most int) []string {
	l := []string{""}
	for from := 0; most > 0; most-- {
		to := len(l)
		for _, s := range l[from:to] {
			for i := range len(signs) {
				l = append(l, s+signs[i:i+1])
			}
		}
		from = to
	}
	return l
}

// P14.2: all short patterns, on all short names.
func TestMatchAll(t *testing.T) {
	for _, pattern := range rows("ab*?", 5) {
		for _, name := range rows("ab", 6) {
			if query.Match(pattern, name) != fits(pattern, name) {
				t.Fatalf("%q of %q: not %v", name, pattern, fits(pattern, name))
			}
		}
	}
}

// P14.7
func TestStars(t *testing.T) {
	for _, name := range append(rows("a*?\xff\x00", 4), strings.Repeat("n", 1000)) {
		for n := range 5 {
			if !query.Match(strings.Repeat("*", n+1), name) {
				t.Fatalf("%d stars do not match %q", n+1, name)
			}
		}
		if strings.ContainsAny(name, "*?") {
			continue
		}
		for _, other := range rows("a*?\xff\x00", 4) {
			if query.Match(name, other) != (name == other) {
				t.Fatalf("%q matches %q", name, other)
			}
		}
	}
}

// DOC, Ends: long patterns and names.
func TestMatchLong(t *testing.T) {
	const n = 200000
	long := strings.Repeat("a", n)
	for pattern, want := range map[string]bool{
		strings.Repeat("*", n): true, strings.Repeat("?", n): true, strings.Repeat("?", n+1): false, strings.Repeat("a*", n): true,
		strings.Repeat("*a", n+1): false, strings.Repeat("a*", n/2) + "b": false, "*" + long + "*": true, "*" + long + "b*": false, long: true,
		strings.Repeat("?*", n): true, strings.Repeat("*?", n) + "?": false,
	} {
		if query.Match(pattern, long) != want {
			t.Errorf("%.8q: not %v", pattern, want)
		}
	}
}

// P14.2
func TestFind(t *testing.T) {
	for pattern, want := range map[string][]string{
		"*":     {"/!", "/.lost", "/.lost/c5-0", "/.lost/c5-0/g", "/d", "/d/e", "/d/f2", "/f", "/s"},
		"?":     {"/!", "/.lost/c5-0/g", "/d", "/d/e", "/f", "/s"},
		"f*":    {"/d/f2", "/f"},
		"f":     {"/f"},
		"f2":    {"/d/f2"},
		".lost": {"/.lost"},
		"c?-0":  {"/.lost/c5-0"},
		"d*f2":  nil, "/f": nil, "/d/f2": nil, "": nil, "gone": nil, "*/*": nil,
	} {
		if got := query.Find(town(), pattern); !slices.Equal(got, want) {
			t.Errorf("%q: %q", pattern, got)
		}
	}
	if query.Find(bad(), "*") != nil {
		t.Error("of what may not be")
	}
	if l := query.Find(chain(479), strings.Repeat("?", 16)); len(l) != 479 || len(l[478]) != 17*479 {
		t.Error("of long paths")
	}
}

// P14.3
func TestNewest(t *testing.T) {
	v := town()
	was := facts.Clone(v)
	for path, want := range map[string][]string{
		"/":           {"d", "!", ".lost", "s", "f"},
		"/d":          {"e", "f2"},
		"/d/e":        nil,
		"/.lost":      {"c5-0"},
		"/.lost/c5-0": {"g"},
	} {
		l, err := query.Newest(v, path)
		if err != api.OK || !slices.Equal(l, want) {
			t.Errorf("%s: %q, %v", path, l, err)
		}
		clear(l[:cap(l)])
		if l, _ = query.Newest(v, path); !slices.Equal(l, want) {
			t.Errorf("%s: two answers share memory: %q", path, l)
		}
	}
	if !facts.Same(v, was) {
		t.Error("the state is changed")
	}
	for path, want := range map[string]api.Errno{
		"/f": api.ENOTDIR, "/s": api.ENOTDIR, "/none": api.ENOENT, "/f/n": api.ENOTDIR, "": api.EINVAL, "d": api.EINVAL, "/d/": api.EINVAL, "//": api.EINVAL,
		"/" + strings.Repeat("n", 17): api.ENAMETOOLONG, strings.Repeat("/n", 9): api.ENAMETOOLONG, "/" + strings.Repeat("n", 120): api.ENAMETOOLONG,
	} {
		if l, err := query.Newest(v, path); err != want || l != nil {
			t.Errorf("%s: %q, %v", path, l, err)
		}
	}
	if l, err := query.Newest(bad(), "/"); err != api.EFORM || l != nil {
		t.Error(l, err)
	}
}

// P14.3: of one time by rising names; the root's own names by theirs, those that are alike in other directories none of it.
func TestNewestTies(t *testing.T) {
	v := facts.Empty()
	v.Seen = seen
	times := []float64{5, math.Inf(-1), math.Copysign(0, -1), 5, math.Inf(1), 0, -1e300, 5, math.SmallestNonzeroFloat64}
	for i, name := range []string{"z", "y", "x", "A", "w", "b", "v", "a", "u"} {
		v.Nodes = append(v.Nodes, inode(stamp(i+1, 0), times[i]))
		v.Links = append(v.Links, link(stamp(i+1, 0), stamp(i+1, 0), root, name))
	}
	for i, name := range []string{"a", "b"} {
		id := stamp(20+i, 1)
		v.Nodes = append(v.Nodes, inode(id, float64(1-i)))
		v.Links = append(v.Links, link(id, id, stamp(1, 0), name))
	}
	want := []string{"w", "A", "a", "z", "u", ".lost", "b", "x", "v", "y"}
	if l, err := query.Newest(v, "/"); err != api.OK || !slices.Equal(l, want) {
		t.Errorf("%q, %v", l, err)
	}
	if l, err := query.Newest(v, "/z"); err != api.OK || !slices.Equal(l, []string{"a", "b"}) {
		t.Errorf("%q, %v", l, err)
	}
}

// P14.3: one whose path is too long, by its bytes or its names, stands behind all others.
func TestNewestLong(t *testing.T) {
	v := chain(6)
	in := stamp(6, 0)
	add := func(id, dir api.Stamp, name string, time float64) {
		v.Nodes = append(v.Nodes, inode(id, time))
		v.Links = append(v.Links, link(id, id, dir, name))
	}
	add(stamp(7, 0), in, strings.Repeat("z", 16), math.Inf(-1)) // 119 bytes
	add(stamp(8, 0), in, "b", 2)
	add(stamp(8, 1), in, "a", 1)
	path := strings.Repeat("/"+strings.Repeat("n", 16), 6)
	if l, err := query.Newest(v, path); err != api.OK || !slices.Equal(l, []string{"b", "a", strings.Repeat("z", 16)}) {
		t.Errorf("%q, %v", l, err)
	}
	add(stamp(9, 1), stamp(7, 0), "b", 2)
	add(stamp(10, 1), stamp(7, 0), "a", 1)
	add(stamp(11, 1), stamp(7, 0), "", 1)
	v.Links[len(v.Links)-1].Name = "c"
	if l, err := query.Newest(v, path+"/"+strings.Repeat("z", 16)); err != api.OK || !slices.Equal(l, []string{"a", "b", "c"}) {
		t.Errorf("of 121 bytes: %q, %v", l, err)
	}
	v = chain(7)
	for i := range v.Links {
		v.Links[i].Name = "n"
	}
	in = stamp(7, 0)
	add(stamp(8, 0), in, strings.Repeat("x", 16), 1)
	add(stamp(8, 1), in, "y", 2)
	add(stamp(9, 1), stamp(8, 0), "b", 2)
	add(stamp(10, 1), stamp(8, 0), "a", math.Inf(-1))
	path = strings.Repeat("/n", 7)
	if l, err := query.Newest(v, path); err != api.OK || !slices.Equal(l, []string{"y", strings.Repeat("x", 16)}) {
		t.Errorf("%q, %v", l, err)
	}
	if l, err := query.Newest(v, path+"/"+strings.Repeat("x", 16)); err != api.OK || !slices.Equal(l, []string{"a", "b"}) {
		t.Errorf("of nine names: %q, %v", l, err)
	}
}

// P14.3: of one directory some names can be asked for, and others can't.
func TestNewestMixed(t *testing.T) {
	v := chain(6)
	in := stamp(6, 0)
	for i := range v.Links {
		v.Links[i].Name = strings.Repeat("n", 16)
	}
	v.Nodes, v.Links = append(v.Nodes, inode(stamp(7, 0), 0)), append(v.Links, link(stamp(7, 0), stamp(7, 0), in, strings.Repeat("n", 14)))
	for i, name := range []string{"aa", "b", "cc", "d"} {
		id := stamp(10+i, 1)
		v.Nodes = append(v.Nodes, inode(id, []float64{9, math.Inf(-1), 10, -5}[i]))
		v.Links = append(v.Links, link(id, id, stamp(7, 0), name))
	}
	path := strings.Repeat("/"+strings.Repeat("n", 16), 6) + "/" + strings.Repeat("n", 14)
	for cut, want := range map[int][]string{0: {"d", "b", "aa", "cc"}, 1: {"cc", "aa", "d", "b"}} {
		v.Links[6].Name = strings.Repeat("n", 14) + strings.Repeat("x", 1-cut)
		l, err := query.Newest(v, path+strings.Repeat("x", 1-cut))
		if len(path) != 117 || err != api.OK || !slices.Equal(l, want) {
			t.Errorf("%d: %q, %v", cut, l, err)
		}
	}
}

// P14.3
func TestUsage(t *testing.T) {
	for _, c := range []struct {
		what string
		do   func(v *api.State)
		want [4]int
	}{
		{"as it is", func(v *api.State) {}, [4]int{2, 3, 1, 70}},
		{"another file has bytes", func(v *api.State) { v.Nodes[6].Size.N = 1024 }, [4]int{2, 3, 1, 1094}},
		{"what does not show has bytes", func(v *api.State) { v.Nodes[7].Size.N = 9 }, [4]int{2, 3, 1, 70}},
		{"one of two links does not show", func(v *api.State) { v.Links[2].Dead = seen }, [4]int{2, 3, 1, 70}},
		{"a directory does not show", func(v *api.State) { v.Links[1].Dead = seen }, [4]int{2, 2, 1, 70}},
		{"no link of the symlink shows", func(v *api.State) { v.Links[3].Dead, v.Links[8].Dead = seen, seen }, [4]int{2, 3, 0, 70}},
		{"empty", func(v *api.State) { *v = facts.Empty() }, [4]int{}},
		{"a chain", func(v *api.State) { *v = chain(479) }, [4]int{0, 479, 0, 0}},
		{"it may not be", func(v *api.State) { *v = bad() }, [4]int{}},
		{"nothing", func(v *api.State) { *v = api.State{} }, [4]int{}},
	} {
		v := town()
		c.do(&v)
		files, dirs, syms, bytes := query.Usage(v)
		if got := [4]int{files, dirs, syms, bytes}; got != c.want {
			t.Errorf("%s: %v", c.what, got)
		}
	}
}

// P14.1 to P14.4, DOC, Ends: what is made by hand.
func TestByHand(t *testing.T) {
	huge := strings.Repeat("x", 70000)
	var v api.State
	for i := range 3000 {
		v.Nodes = append(v.Nodes, api.Inode{Kind: -i, Text: huge[:i], Size: api.Size{N: math.MaxInt}})
		v.Links = append(v.Links, api.Link{Name: strconv.Itoa(i)})
	}
	v.Nodes[0] = api.Inode{Kind: math.MinInt, Text: huge, Attr: api.Attr{Mode: -1, Time: math.MaxUint64}, Xattrs: make([]api.Xattr, 100000)}
	if query.Tree(v) != nil || query.Find(v, huge) != nil || !query.Alike(v, bad()) {
		t.Error("of what may not be")
	}
	if l, err := query.Newest(v, huge); l != nil || err != api.EFORM {
		t.Error(l, err)
	}
	if n := len(query.Dump(v)); n != 7+1+2+8+2+65535+2+100000*5+1 {
		t.Error(n)
	}
}
