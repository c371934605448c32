package news_test

import (
	"math"
	"slices"
	"strconv"
	"strings"
	"testing"

	"crannog/api"
	"crannog/calls"
	"crannog/facts"
	"crannog/join"
	"crannog/news"
	"crannog/query"
	"crannog/view"
)

func stamp(time, who int) api.Stamp { return api.Stamp{Time: time, Who: who} }

// done is a state with calls done by a replica.
func done(t *testing.T, s api.State, who int, l ...api.Call) api.State {
	t.Helper()
	for _, c := range l {
		ans, out := calls.Do(s, who, c)
		if ans.Err != api.OK {
			t.Fatal(c, ans.Err)
		}
		s = join.States(s, out)
	}
	return s
}

// lines is news as lines.
func lines(l []api.News) string {
	var b []string
	for _, n := range l {
		b = append(b, news.Text(n))
	}
	return strings.Join(b, "\n")
}

func called(kind int, path, to string) api.Call { return api.Call{Kind: kind, Path: path, To: to} }

// town is a volume: /a/b/f, of which /g is a further link, /s, /x, /.lost/c1-1.
func town(t *testing.T) api.State {
	t.Helper()
	other := done(t, facts.Empty(), 1, called(api.CMkdir, "/x", ""))
	s := done(t, facts.Empty(), 0,
		called(api.CMkdir, "/a", ""), called(api.CMkdir, "/a/b", ""), called(api.CCreate, "/a/b/f", ""), called(api.CLink, "/a/b/f", "/g"),
		called(api.CSymlink, "/s", "to"), called(api.CMkdir, "/x", ""))
	return join.States(s, other)
}

// P25.1, P25.2: each change by itself.
func TestBetween(t *testing.T) {
	set := func(path, to, data string) api.Call {
		return api.Call{Kind: api.CSetx, Path: path, To: to, Data: data}
	}
	for _, c := range []struct {
		what  string
		first []api.Call // done ahead of the comparison
		then  []api.Call
		want  string
	}{
		{"nothing", nil, nil, ""},
		{"came", nil, []api.Call{called(api.CCreate, "/a/n", "")}, "+ /a/n 7.0"},
		{"a directory, and what is in it", nil, []api.Call{called(api.CMkdir, "/d", ""), called(api.CMkdir, "/d/e", "")}, "+ /d 7.0\n+ /d/e 8.0"},
		{"a further link", nil, []api.Call{called(api.CLink, "/s", "/a/s")}, "+ /a/s 5.0"},
		{"went", nil, []api.Call{called(api.CUnlink, "/s", "")}, "- /s 5.0"},
		{"a link of two went", nil, []api.Call{called(api.CUnlink, "/a/b/f", "")}, "- /a/b/f 3.0"},
		{"moved", nil, []api.Call{called(api.CRename, "/s", "/a/s")}, "> /s /a/s 5.0"},
		{"renamed", nil, []api.Call{called(api.CRename, "/s", "/t")}, "> /s /t 5.0"},
		{"a directory moved, and what is in it not", nil, []api.Call{called(api.CRename, "/a/b", "/z")}, "> /a/b /z 2.0"},
		{"out of the directory of conflicts", nil, []api.Call{called(api.CRename, "/.lost/c1-1", "/y")}, "> /.lost/c1-1 /y 1.1"},
		{"in place of another one", nil, []api.Call{called(api.CRename, "/s", "/g")}, "- /g 3.0\n> /s /g 5.0"},
		{"bytes", nil, []api.Call{{Kind: api.CWrite, Path: "/g", Data: "d"}}, "= /a/b/f 3.0"},
		{"noughts", nil, []api.Call{{Kind: api.CTruncate, Path: "/g", N: 2}}, "= /a/b/f 3.0"},
		{"the same bytes anew", []api.Call{{Kind: api.CWrite, Path: "/g", Data: "d"}}, []api.Call{{Kind: api.CWrite, Path: "/g", Data: "d"}}, ""},
		{"a mode", nil, []api.Call{{Kind: api.CChmod, Path: "/a", N: 7}}, "! /a 1.0"},
		{"a time", nil, []api.Call{{Kind: api.CUtime, Path: "/a/b", Time: math.Inf(1)}}, "! /a/b 2.0"},
		{"the same mode anew", nil, []api.Call{{Kind: api.CChmod, Path: "/a"}}, ""},
		{"the root", nil, []api.Call{{Kind: api.CChmod, Path: "/", N: 7}, set("/", "x", "")}, "! / 0.0\n@ x / 0.0"},
		{"xattrs", []api.Call{set("/a", "b", "1"), set("/a", "c", "2"), set("/a", "e", "3")},
			[]api.Call{called(api.CDelx, "/a", "c"), set("/a", "b", "2"), set("/a", "e", "3"), set("/a", "a", "")}, "@ a /a 1.0\n@ b /a 1.0\n@ c /a 1.0"},
		{"an xattr that was gone", []api.Call{set("/a", "b", "1"), called(api.CDelx, "/a", "b")}, []api.Call{set("/a", "b", ""), called(api.CDelx, "/a", "b")}, ""},
		{"an xattr back again", []api.Call{set("/a", "b", "1"), called(api.CDelx, "/a", "b")}, []api.Call{set("/a", "b", "1")}, "@ b /a 1.0"},
		{"of what came nothing else", nil, []api.Call{called(api.CCreate, "/n", ""), {Kind: api.CWrite, Path: "/n", Data: "d"}, set("/n", "x", "y")}, "+ /n 7.0"},
		{"what came of an inode that showed", nil, []api.Call{called(api.CLink, "/s", "/a/s"), called(api.CUnlink, "/s", ""), {Kind: api.CChmod, Path: "/a/s", N: 7}}, "- /s 5.0\n+ /a/s 5.0\n! /a/s 5.0"},
		{"all of one", nil, []api.Call{called(api.CRename, "/g", "/0"), {Kind: api.CWrite, Path: "/0", Data: "d"}, {Kind: api.CChmod, Path: "/0", N: 7}, set("/0", "y", ""), set("/0", "x", "")},
			"> /g /0 3.0\n= /0 3.0\n! /0 3.0\n@ x /0 3.0\n@ y /0 3.0"},
		{"what went first, the root, the walk, conflicts", nil, []api.Call{called(api.CUnlink, "/s", ""), called(api.CUnlink, "/g", ""), {Kind: api.CUtime, Path: "/", Time: 1}, called(api.CCreate, "/.lost/c1-1/n", ""), called(api.CCreate, "/z", ""), called(api.CCreate, "/a/0", "")},
			"- /g 3.0\n- /s 5.0\n! / 0.0\n+ /a/0 12.0\n+ /z 11.0\n+ /.lost/c1-1/n 10.0"},
	} {
		a := done(t, town(t), 0, c.first...)
		b := done(t, a, 0, c.then...)
		was, is := facts.Clone(a), facts.Clone(b)
		l := news.Between(a, b)
		if lines(l) != c.want {
			t.Errorf("%s:\n%s\nwant\n%s", c.what, lines(l), c.want)
		}
		if !facts.Same(a, was) || !facts.Same(b, is) {
			t.Error(c.what, "changes what it is handed")
		}
		clear(l[:cap(l)])
		if lines(news.Between(a, b)) != c.want {
			t.Error(c.what, "is not the same again")
		}
	}
}

// P25.1: the fields of each.
func TestFields(t *testing.T) {
	a := town(t)
	b := done(t, a, 0, called(api.CUnlink, "/s", ""), called(api.CRename, "/g", "/h"), called(api.CCreate, "/n", ""), api.Call{Kind: api.CSetx, Path: "/x", To: "k", Data: "v"}, api.Call{Kind: api.CChmod, Path: "/x", N: 1}, api.Call{Kind: api.CWrite, Path: "/h", Data: "d"})
	want := []api.News{
		{What: api.NWent, Path: "/s", Node: stamp(5, 0)}, {What: api.NBytes, Path: "/a/b/f", Node: stamp(3, 0)},
		{What: api.NMoved, Path: "/h", From: "/g", Node: stamp(3, 0)}, {What: api.NCame, Path: "/n", Node: stamp(9, 0)},
		{What: api.NAttrs, Path: "/x", Node: stamp(6, 0)}, {What: api.NNamed, Path: "/x", From: "k", Node: stamp(6, 0)},
	}
	if l := news.Between(a, b); !slices.Equal(l, want) {
		t.Error(l)
	}
	bad := facts.Clone(a)
	bad.Links[0].Name = ""
	for _, c := range [][2]api.State{{a, bad}, {bad, a}, {bad, bad}, {api.State{}, b}, {b, api.State{}}, {}} {
		if l := news.Between(c[0], c[1]); len(l) != 0 {
			t.Error("of what may not be:", l)
		}
	}
}

// P25.1: of volumes that have nothing to do with one another: links of one Id, of unlike inodes; inodes of unlike kinds.
func TestStrangers(t *testing.T) {
	hand := func(kind int, node api.Stamp, text string) api.State {
		s := facts.Empty()
		s.Seen = api.Vector{9}
		n := api.Inode{Id: node, Kind: kind, Text: text, Attr: api.Attr{At: node, Time: s.Nodes[0].Attr.Time}}
		if kind == api.File {
			n.Size.At = node
		}
		s.Nodes = append(s.Nodes, n)
		s.Links = []api.Link{{Id: stamp(5, 0), Node: node, At: stamp(5, 0), Name: "n", Alive: api.Vector{5}}}
		if facts.Check(s) != api.OK {
			t.Fatal(s)
		}
		return s
	}
	for _, c := range []struct {
		a, b api.State
		want string
	}{
		{hand(api.File, stamp(1, 0), ""), hand(api.File, stamp(2, 0), ""), "- /n 1.0\n+ /n 2.0"},
		{hand(api.File, stamp(1, 0), ""), hand(api.Dir, stamp(1, 0), ""), "= /n 1.0"},
		{hand(api.Sym, stamp(1, 0), "a"), hand(api.Sym, stamp(1, 0), "b"), "= /n 1.0"},
		{hand(api.Sym, stamp(1, 0), "a"), hand(api.Sym, stamp(1, 0), "a"), ""},
	} {
		if l := lines(news.Between(c.a, c.b)); l != c.want {
			t.Errorf("%s, want %s", l, c.want)
		}
	}
}

// P25.2
func TestText(t *testing.T) {
	for what, want := range map[int]string{
		api.NCame: "+ /p 12.3", api.NWent: "- /p 12.3", api.NMoved: "> /o /p 12.3", api.NBytes: "= /p 12.3", api.NAttrs: "! /p 12.3", api.NNamed: "@ /o /p 12.3",
		0: "?", 7: "?", -1: "?", math.MaxInt: "?", math.MinInt: "?",
	} {
		if s := news.Text(api.News{What: what, Path: "/p", From: "/o", Node: stamp(12, 3)}); s != want {
			t.Errorf("%d: %q, want %q", what, s, want)
		}
	}
	if s := news.Text(api.News{What: api.NMoved, Node: stamp(-5, -1<<63)}); s != ">   -5.-9223372036854775808" {
		t.Errorf("%q", s)
	}
}

// P25.2
func TestCount(t *testing.T) {
	l := []api.News{{What: 1}, {What: 2}, {What: 1}, {}, {What: -3}, {What: 6}, {What: 1}}
	for what, want := range map[int]int{0: 1, 1: 3, 2: 1, 3: 0, 6: 1, -3: 1, 99: 0} {
		if n := news.Count(l, what); n != want {
			t.Error(what, n)
		}
	}
	if news.Count(nil, 0) != 0 {
		t.Error("of none")
	}
}

// What follows is the document's words once more, in another way: by paths.

// row is a link of a walk.
type row struct {
	path string
	api.Shown
}

// walk is that of a volume.
func walk(s api.State) []row {
	var all []row
	shown := view.Shown(s)
	var below func(dir api.Stamp, path string)
	below = func(dir api.Stamp, path string) {
		for _, k := range shown {
			if k.Parent == dir {
				all = append(all, row{path + "/" + k.Name, k})
				below(k.Node, path+"/"+k.Name)
			}
		}
	}
	below(stamp(0, 0), "")
	below(stamp(0, 1), "/.lost")
	return all
}

// has is the place of a link of some inode in a walk; -1: it has none.
func has(w []row, k row) int {
	return slices.IndexFunc(w, func(r row) bool { return r.Link == k.Link && r.Node == k.Node })
}

// firstOf is the place of the first link of an inode in a walk.
func firstOf(w []row, id api.Stamp) int {
	return slices.IndexFunc(w, func(r row) bool { return r.Node == id })
}

// told is what should be told of an inode, asked by what is answered of it.
func told(a, b api.State, id api.Stamp, path string) []string {
	x, _ := facts.Node(a, id)
	y, _ := facts.Node(b, id)
	var l []string
	end := " " + path + " " + strconv.Itoa(id.Time) + "." + strconv.Itoa(id.Who)
	if x.Kind != y.Kind || x.Text != y.Text || calls.Bytes(x) != calls.Bytes(y) {
		l = append(l, "="+end)
	}
	if x.Attr.Mode != y.Attr.Mode || x.Attr.Time != y.Attr.Time {
		l = append(l, "!"+end)
	}
	val := func(n api.Inode, name string) string {
		for _, x := range n.Xattrs {
			if x.Name == name && !x.Gone {
				return "=" + x.Val
			}
		}
		return ""
	}
	for _, name := range []string{"a", "b", "c"} {
		if val(x, name) != val(y, name) {
			l = append(l, "@ "+name+end)
		}
	}
	return l
}

// should is the news that there should be, as lines.
func should(a, b api.State) string {
	was, is := walk(a), walk(b)
	var l []string
	for _, k := range was {
		if has(is, k) < 0 {
			l = append(l, "- "+k.path+" "+strconv.Itoa(k.Node.Time)+"."+strconv.Itoa(k.Node.Who))
		}
	}
	l = append(l, told(a, b, api.Stamp{}, "/")...)
	for i, k := range is {
		end := k.path + " " + strconv.Itoa(k.Node.Time) + "." + strconv.Itoa(k.Node.Who)
		if j := has(was, k); j < 0 {
			l = append(l, "+ "+end)
		} else if was[j].Parent != k.Parent || was[j].Name != k.Name {
			l = append(l, "> "+was[j].path+" "+end)
		}
		if firstOf(is, k.Node) == i && firstOf(was, k.Node) >= 0 {
			l = append(l, told(a, b, k.Node, k.path)...)
		}
	}
	return strings.Join(l, "\n")
}

// paths is those of one kind of news, with their inodes, in order of their own.
func paths(l []api.News, what int) []string {
	var all []string
	for _, n := range l {
		if n.What == what {
			all = append(all, n.Path+" "+strconv.Itoa(n.Node.Time)+"."+strconv.Itoa(n.Node.Who))
		}
	}
	slices.Sort(all)
	return all
}

// P25.1, P25.3, P25.4: of any two volumes.
func TestAny(t *testing.T) {
	var count [7]int
	none, odd := 0, 0
	for seed := range 60 {
		w := began(seed, 1+seed%3)
		was := []api.State{facts.Empty()}
		for i := range 100 {
			b := w.reps[w.step()]
			a := was[max(0, len(was)-1-w.Intn(12))]
			was = append(was, b)
			l, back := news.Between(a, b), news.Between(b, a)
			if lines(l) != should(a, b) {
				t.Fatalf("seed %d, %d:\n%s\nwant\n%s", seed, i, lines(l), should(a, b))
			}
			for _, n := range l {
				count[n.What]++
				odd += strings.Count(n.Path, "/.lost/")
			}
			if !slices.Equal(paths(l, api.NCame), paths(back, api.NWent)) || !slices.Equal(paths(l, api.NWent), paths(back, api.NCame)) {
				t.Fatalf("seed %d, %d: %s, and back %s", seed, i, lines(l), lines(back))
			}
			if news.Count(l, api.NMoved) != news.Count(back, api.NMoved) || news.Count(l, api.NBytes) != news.Count(back, api.NBytes) || (len(l) == 0) != (len(back) == 0) {
				t.Fatalf("seed %d, %d: %s, and back %s", seed, i, lines(l), lines(back))
			}
			if len(news.Between(b, facts.Clone(b))) != 0 {
				t.Fatalf("seed %d, %d: news of itself", seed, i)
			}
			if len(l) > 0 {
				continue
			}
			none++
			if !query.Alike(a, b) {
				t.Fatalf("seed %d, %d: no news, but not alike: %v, %v", seed, i, a, b)
			}
		}
	}
	if slices.Min(count[1:]) < 100 || none < 100 || odd < 100 {
		t.Error(count, none, odd)
	}
}
