package calls_test

import (
	"math"
	"slices"
	"strings"
	"testing"

	"crannog/api"
	"crannog/calls"
	"crannog/facts"
)

// P13.1, P13.2: what questions are answered, as a whole; by whom they are asked is nothing to them.
func TestAnswers(t *testing.T) {
	v := town()
	v.Nodes[0].Xattrs = []api.Xattr{{Name: "b", At: f, Gone: true}}
	v.Links = append(v.Links, link(stamp(16, 2), s, root, "!"))
	body := text + "uvwxyz"
	names := func(l ...string) api.Answer { return api.Answer{Names: l} }
	data := func(s string) api.Answer { return api.Answer{Data: s} }
	stat := func(id api.Stamp, kind, mode int, time uint64, size, links int) api.Answer {
		return api.Answer{Stat: api.Stat{Node: id, Kind: kind, Mode: mode, Time: time, Size: size, Links: links}}
	}
	for _, c := range []struct {
		c    api.Call
		want api.Answer
	}{
		{api.Call{Kind: api.CRead, Path: "/f", N: 70, To: "t", Data: "d", Time: nan}, data(body)},
		{api.Call{Kind: api.CRead, Path: "/d/f2", N: math.MaxInt}, data(body)},
		{api.Call{Kind: api.CRead, Path: "/f", N: 0}, data("")},
		{api.Call{Kind: api.CRead, Path: "/f", Off: 62, N: 4}, data("efuv")},
		{api.Call{Kind: api.CRead, Path: "/f", Off: 69, N: 9}, data("z")},
		{api.Call{Kind: api.CRead, Path: "/f", Off: 70, N: 9}, data("")},
		{api.Call{Kind: api.CRead, Path: "/f", Off: math.MaxInt, N: math.MaxInt}, data("")},
		{api.Call{Kind: api.CRead, Path: "/.lost/c7-1", N: 9}, data("")},
		{api.Call{Kind: api.CList, Path: "/"}, names("!", ".lost", "d", "empty", "f", "ghost", "s")},
		{api.Call{Kind: api.CList, Path: "/.lost", N: -1, Off: -1}, names("c5-0", "c7-1", "c9-0")},
		{api.Call{Kind: api.CList, Path: "/d"}, names("e", "f2")},
		{api.Call{Kind: api.CList, Path: "/empty"}, names()},
		{api.Call{Kind: api.CList, Path: "/.lost/c9-0"}, names("m")},
		{api.Call{Kind: api.CList, Path: "/.lost/c9-0/m"}, names()},
		{api.Call{Kind: api.CReadlink, Path: "/s", N: -1, Off: 2}, data("/d/e")},
		{api.Call{Kind: api.CStat, Path: "/"}, stat(root, api.Dir, 0o755, zero, 0, 1)},
		{api.Call{Kind: api.CStat, Path: "/.lost"}, stat(lost, api.Dir, 0, zero, 0, 1)},
		{api.Call{Kind: api.CStat, Path: "/d", N: -1}, stat(d, api.Dir, 0o750, zero+1, 0, 1)},
		{api.Call{Kind: api.CStat, Path: "/f"}, stat(f, api.File, 0o750, zero+1, 70, 2)},
		{api.Call{Kind: api.CStat, Path: "/d/f2"}, stat(f, api.File, 0o750, zero+1, 70, 2)},
		{api.Call{Kind: api.CStat, Path: "/!"}, stat(s, api.Sym, 0o750, zero+1, 4, 2)},
		{api.Call{Kind: api.CStat, Path: "/.lost/c5-0"}, stat(x, api.Dir, 0o750, zero+1, 0, 1)},
		{api.Call{Kind: api.CStat, Path: "/ghost/h"}, stat(h, api.File, 0o750, zero+1, 0, 1)},
		{api.Call{Kind: api.CGetx, Path: "/d/f2", To: "a", Data: strings.Repeat("d", 33)}, data("1")},
		{api.Call{Kind: api.CGetx, Path: "/f", To: "z"}, data("")},
		{api.Call{Kind: api.CListx, Path: "/f", To: ""}, names("a", "z")},
		{api.Call{Kind: api.CListx, Path: "/"}, names()},
		{api.Call{Kind: api.CListx, Path: "/s"}, names()},
	} {
		for _, who := range []int{0, 7, -5, 99} {
			if ans, out := calls.Do(v, who, c.c); !calls.Same(ans, c.want) || !facts.Same(out, api.State{}) {
				t.Errorf("%v by %d: %v, %v", c.c, who, ans, out)
			}
		}
	}
}

// P13.2: an inode of which one link shows, and one does not.
func TestAnswersLinks(t *testing.T) {
	v := town()
	v.Links[2].Dead = seen
	ans, _ := do(t, v, api.Call{Kind: api.CStat, Path: "/d/f2"})
	if ans.Stat.Links != 1 {
		t.Error(ans)
	}
}

// P13.3
func TestBytes(t *testing.T) {
	p := func(index int, data string) api.Piece { return api.Piece{Index: index, Data: data} }
	nought := func(n int) string { return strings.Repeat("\x00", n) }
	long := strings.Repeat("x", 70)
	for _, c := range []struct {
		n    int
		l    []api.Piece
		want string
	}{
		{0, nil, ""}, {3, nil, nought(3)}, {-1, []api.Piece{p(0, "abc")}, ""}, {math.MinInt, nil, ""},
		{1024, nil, nought(1024)}, {1025, nil, nought(1024)}, {math.MaxInt, []api.Piece{p(15, long)}, nought(960) + long[:64]},
		{3, []api.Piece{p(0, "abcd")}, "abc"}, {5, []api.Piece{p(0, "abc")}, "abc\x00\x00"}, {0, []api.Piece{p(0, "abc")}, ""},
		{66, []api.Piece{p(1, "abc")}, nought(64) + "ab"}, {66, []api.Piece{p(0, long)}, long[:64] + nought(2)},
		{70, []api.Piece{p(1, "abc"), p(0, long)}, long[:64] + "abc" + nought(3)},
		{66, []api.Piece{p(1, "abc"), p(2, "def"), p(15, "g"), p(16, "h"), p(-1, "i")}, nought(64) + "ab"},
		{4, []api.Piece{p(-1, long), p(16, long), p(math.MaxInt, long), p(math.MinInt, long), p(1<<58, "abc")}, nought(4)},
		{1024, []api.Piece{p(16, "x"), p(15, "y"), p(-1, "z")}, nought(960) + "y" + nought(63)},
		{5, []api.Piece{p(0, "abcd"), p(0, "xy")}, "xycd\x00"}, {5, []api.Piece{p(0, "xy"), p(0, "abcd")}, "abcd\x00"},
	} {
		was := slices.Clone(c.l)
		if got := calls.Bytes(api.Inode{Kind: api.File, Size: api.Size{N: c.n}, Pieces: c.l}); got != c.want || !slices.Equal(c.l, was) {
			t.Errorf("%d of %v: %q", c.n, c.l, got)
		}
	}
	if got := calls.Bytes(api.Inode{Kind: api.Sym, Text: "abc", Xattrs: []api.Xattr{{Val: "v"}}}); got != "" {
		t.Errorf("of a symlink: %q", got)
	}
}

// P13.3
func TestSame(t *testing.T) {
	full := func() api.Answer {
		return api.Answer{Err: 2, Data: "d", Names: []string{"a", "b"}, Stat: api.Stat{Node: d, Kind: 1, Mode: 2, Time: 3, Size: 4, Links: 5}}
	}
	if !calls.Same(full(), full()) || !calls.Same(api.Answer{}, api.Answer{Names: []string{}}) {
		t.Error("alike")
	}
	for i, change := range []func(a *api.Answer){
		func(a *api.Answer) { a.Err = 3 }, func(a *api.Answer) { a.Data = "" }, func(a *api.Answer) { a.Names = nil },
		func(a *api.Answer) { a.Names = a.Names[:1] }, func(a *api.Answer) { a.Names[1] = "c" }, func(a *api.Answer) { a.Names = []string{"b", "a"} },
		func(a *api.Answer) { a.Stat.Node.Time++ }, func(a *api.Answer) { a.Stat.Node.Who++ }, func(a *api.Answer) { a.Stat.Kind++ },
		func(a *api.Answer) { a.Stat.Mode++ }, func(a *api.Answer) { a.Stat.Time++ }, func(a *api.Answer) { a.Stat.Size++ }, func(a *api.Answer) { a.Stat.Links++ },
	} {
		a := full()
		change(&a)
		if calls.Same(a, full()) || calls.Same(full(), a) {
			t.Errorf("change %d", i)
		}
	}
}

// DOC, Memory: what one call answers is nobody else's.
func TestMemory(t *testing.T) {
	v := town()
	for _, c := range []api.Call{
		{Kind: api.CList, Path: "/"}, {Kind: api.CListx, Path: "/f"}, {Kind: api.CWrite, Path: "/f", Off: 60, Data: strings.Repeat("d", 200)},
		{Kind: api.CSetx, Path: "/d/f2", To: "a"}, {Kind: api.CRename, Path: "/d/f2", To: "/d/e/k"}, {Kind: api.CSymlink, Path: "/d/e/n", To: "t"},
	} {
		ans, out := do(t, v, c)
		was := facts.Clone(v)
		names, kept := slices.Clone(ans.Names), facts.Clone(out)
		other, more := do(t, v, c)
		for i := range other.Names {
			other.Names[i] = "changed"
		}
		for i := range more.Nodes {
			clear(more.Nodes[i].Pieces[:cap(more.Nodes[i].Pieces)])
			clear(more.Nodes[i].Xattrs[:cap(more.Nodes[i].Xattrs)])
		}
		clear(more.Nodes[:cap(more.Nodes)])
		clear(more.Links[:cap(more.Links)])
		if !slices.Equal(ans.Names, names) || !facts.Same(out, kept) || !facts.Same(v, was) {
			t.Errorf("%v shares memory", c)
		}
	}
}

// DOC, Ends: a state that is as large as may be, and calls with long texts.
func TestLarge(t *testing.T) {
	v := crowd(api.MaxNodes*api.MaxReps, api.MaxLinks*api.MaxReps)
	if facts.Check(v) != api.OK {
		t.Fatal("it may not be")
	}
	huge := strings.Repeat("/n", 1<<20)
	for kind := -1; kind <= 21; kind++ {
		for _, path := range []string{"/", "/n1", "/none", huge} {
			for _, n := range []int{math.MinInt, -1, 0, math.MaxInt} {
				c := api.Call{Kind: kind, Path: path, To: huge, Off: n, N: n, Data: huge, Time: math.Inf(1)}
				if ans, out := do(t, v, c); ans.Err != api.OK && !facts.Same(out, api.State{}) {
					t.Errorf("%d of %.9q: %v, %v", kind, path, ans.Err, out)
				}
			}
		}
	}
}
