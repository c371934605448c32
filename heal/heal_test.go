package heal_test

import (
	"math"
	"slices"
	"strconv"
	"strings"
	"testing"

	"crannog/api"
	"crannog/calls"
	"crannog/facts"
	"crannog/heal"
	"crannog/join"
	"crannog/names"
	"crannog/query"
	"crannog/view"
)

func stamp(time, who int) api.Stamp { return api.Stamp{Time: time, Who: who} }

func called(kind int, path, to string) api.Call { return api.Call{Kind: kind, Path: path, To: to} }

func mkdir(path string) api.Call { return called(api.CMkdir, path, "") }

func create(path string) api.Call { return called(api.CCreate, path, "") }

func rename(path, to string) api.Call { return called(api.CRename, path, to) }

// done is a state with calls done by a replica.
func done(t *testing.T, s api.State, who int, l ...api.Call) api.State {
	t.Helper()
	for _, c := range l {
		ans, out := calls.Do(s, who, c)
		if ans.Err != api.OK {
			t.Fatal(c, ans.Err)
		}
		s = join.States(s, out)
	}
	return s
}

// apart is a state in which replicas did calls, each unheard of the others.
func apart(t *testing.T, s api.State, by ...[]api.Call) api.State {
	t.Helper()
	all := s
	for who, l := range by {
		all = join.States(all, done(t, s, who, l...))
	}
	return all
}

// deep is names in directories, made one in the other.
func deep(l ...string) []api.Call {
	var all []api.Call
	for i := range l {
		all = append(all, mkdir("/"+strings.Join(l[:i+1], "/")))
	}
	return all
}

// P27.1
func TestList(t *testing.T) {
	clash := apart(t, facts.Empty(), []api.Call{create("/a"), mkdir("/b")}, []api.Call{mkdir("/a"), create("/b")}, []api.Call{create("/a")})
	xy := done(t, facts.Empty(), 0, mkdir("/x"), mkdir("/y"), create("/x/f"))
	round := apart(t, xy, []api.Call{rename("/x", "/y/x")}, []api.Call{rename("/y", "/x/y")})
	below := apart(t, done(t, facts.Empty(), 0, mkdir("/d")), []api.Call{mkdir("/d/e")}, []api.Call{create("/d/e")})
	for _, c := range []struct {
		what string
		s    api.State
		want []api.Conflict
	}{
		{"none", facts.Empty(), nil},
		{"none", xy, nil},
		{"names", clash, []api.Conflict{
			{Link: stamp(1, 0), Path: "/.lost/c1-0", Wanted: "/a", Why: api.HClash, Other: stamp(1, 2)},
			{Link: stamp(1, 1), Path: "/.lost/c1-1", Wanted: "/a", Why: api.HClash, Other: stamp(1, 2)},
			{Link: stamp(2, 0), Path: "/.lost/c2-0", Wanted: "/b", Why: api.HClash, Other: stamp(2, 1)},
		}},
		{"a name below", below, []api.Conflict{{Link: stamp(2, 0), Path: "/.lost/c2-0", Wanted: "/d/e", Why: api.HClash, Other: stamp(2, 1)}}},
		{"a round", round, []api.Conflict{{Link: stamp(2, 0), Path: "/.lost/c2-0", Wanted: "/.lost/c2-0/x/y", Why: api.HRound}}},
		{"a round, its name taken", join.States(round, done(t, round, 3, create("/.lost/c2-0/x/y"))), []api.Conflict{{Link: stamp(2, 0), Path: "/.lost/c2-0", Wanted: "/.lost/c2-0/x/y", Why: api.HClash, Other: stamp(5, 3)}}},
		{"none of what may not be", api.State{Links: clash.Links}, nil},
	} {
		was := facts.Clone(c.s)
		l := heal.List(c.s)
		if !slices.Equal(l, c.want) || !facts.Same(c.s, was) {
			t.Errorf("%s: %v, want %v", c.what, l, c.want)
		}
	}
}

// P27.2: where each goes.
func TestCall(t *testing.T) {
	long := strings.Repeat("n", 16)
	both := func(top []api.Call, path string) api.State {
		return apart(t, done(t, facts.Empty(), 0, top...), []api.Call{create(path)}, []api.Call{mkdir(path)})
	}
	taken := func(n int, path string) api.State {
		s := both(nil, path)
		for i := range n {
			name := path[:min(len(path), 17-1-len(strconv.Itoa(i+1)))] + "~" + strconv.Itoa(i+1)
			s = done(t, s, 2, create(name))
		}
		return s
	}
	xy := done(t, facts.Empty(), 0, mkdir("/x"), mkdir("/y"), mkdir("/y/z"))
	seven := deep("1", "2", "3", "4", "5", "6", "7")
	for _, c := range []struct {
		what string
		s    api.State
		link api.Stamp
		to   string
	}{
		{"in the root", both(nil, "/a"), stamp(1, 0), "/a~1"},
		{"below", both(deep("d", "e"), "/d/e/a"), stamp(3, 0), "/d/e/a~1"},
		{"a long name", both(nil, "/"+long), stamp(1, 0), "/" + long[:14] + "~1"},
		{"the first is taken", taken(1, "/a"), stamp(1, 0), "/a~2"},
		{"nine are taken", taken(9, "/a"), stamp(1, 0), "/a~10"},
		{"nine of a long name", taken(9, "/"+long), stamp(1, 0), "/" + long[:13] + "~10"},
		{"nine of one of 15", taken(9, "/"+long[:15]), stamp(1, 0), "/" + long[:13] + "~10"},
		{"of one of 14", taken(0, "/"+long[:14]), stamp(1, 0), "/" + long[:14] + "~1"},
		{"of one of 13", taken(9, "/"+long[:13]), stamp(1, 0), "/" + long[:13] + "~10"},
		{"bytes are cut, not letters", both(nil, "/"+strings.Repeat("ä", 8)), stamp(1, 0), "/" + strings.Repeat("ä", 7) + "~1"},
		{"and in the middle", both(nil, "/x"+strings.Repeat("ä", 7)+"y"), stamp(1, 0), "/x" + strings.Repeat("ä", 6) + "\xc3~1"},
		{"taken elsewhere", apart(t, done(t, facts.Empty(), 0, mkdir("/d"), create("/d/a~1")), []api.Call{create("/a")}, []api.Call{mkdir("/a")}), stamp(3, 0), "/a~1"},
		{"unlinked since", done(t, taken(1, "/a"), 2, called(api.CUnlink, "/a~1", "")), stamp(1, 0), "/a~1"},
		{"a round", apart(t, xy, []api.Call{rename("/x", "/y/z/x")}, []api.Call{rename("/y", "/x/w")}), stamp(2, 0), "/w~1"},
		{"in .lost", apart(t, apart(t, facts.Empty(), []api.Call{mkdir("/a")}, []api.Call{create("/a")}), []api.Call{create("/.lost/c1-0/f")}, []api.Call{mkdir("/.lost/c1-0/f")}), stamp(2, 0), "/f~1"},
		{"in what is named like it", both(deep(".lostly"), "/.lostly/f"), stamp(2, 0), "/f~1"},
		{"in what is not", both(deep(".los", ".lost"), "/.los/.lost/f"), stamp(3, 0), "/.los/.lost/f~1"},
		{"seven deep", both(seven, "/1/2/3/4/5/6/7/8"), stamp(8, 0), "/1/2/3/4/5/6/7/8~1"},
		{"a path of 120 bytes", both(deep(long, long, long, long, long, long), "/"+strings.Repeat(long+"/", 6)+long[:15]), stamp(7, 0), "/" + strings.Repeat(long+"/", 6) + long[:14] + "~1"},
	} {
		was := facts.Clone(c.s)
		want := api.Call{Kind: api.CRename, Path: "/.lost/" + names.Odd(c.link), To: c.to}
		got, ok := heal.Call(c.s, api.Conflict{Link: c.link})
		if !ok || got != want || !facts.Same(c.s, was) {
			t.Errorf("%s: %v, %v, want %v", c.what, got, ok, want)
			continue
		}
		if ans, _ := calls.Do(c.s, 5, got); ans.Err != api.OK {
			t.Errorf("%s: %v", c.what, ans.Err)
		}
	}
}

// moved is a volume of so many directories, one in the other, in the last of which two made a.
func moved(t *testing.T, n int, name string) (api.State, api.Stamp) {
	t.Helper()
	// Paths that are too long come by moving what is below.
	s := done(t, facts.Empty(), 0, deep("1", "2", "3", "4", "5", "6", "7")...)
	s = apart(t, s, []api.Call{create("/1/2/3/4/5/6/7/a")}, []api.Call{create("/1/2/3/4/5/6/7/a")})
	for i := range n {
		s = done(t, s, 0, mkdir("/"+name+strconv.Itoa(i)))
		s = done(t, s, 0, rename("/"+[]string{"1", name + strconv.Itoa(i-1)}[min(i, 1)], "/"+name+strconv.Itoa(i)+"/x"))
	}
	return s, stamp(8, 0)
}

// P27.2: a path that is none leads to the root, where a fresh name is sought anew.
func TestCallTooDeep(t *testing.T) {
	for n, to := range []string{"/1/2/3/4/5/6/7/a~1", "/a~1", "/a~1"} {
		s, link := moved(t, n, "d")
		if c, ok := heal.Call(s, api.Conflict{Link: link}); !ok || c.To != to {
			t.Error(n, c, ok)
		}
	}
	s, link := moved(t, 1, "d")
	s = done(t, s, 2, create("/a~1"), create("/a~2"))
	if c, ok := heal.Call(s, api.Conflict{Link: link}); !ok || c.To != "/a~3" {
		t.Error(c, ok)
	}
}

// row is a volume made by hand: so many files in a directory under fresh names like a, and two that are a.
func row(n int, below bool) api.State {
	s := facts.Empty()
	s.Seen = api.Vector{2000}
	dir := api.Stamp{}
	add := func(time, kind int, parent api.Stamp, name string) {
		id := stamp(time, 0)
		node := api.Inode{Id: id, Kind: kind, Attr: api.Attr{At: id, Time: s.Nodes[0].Attr.Time}}
		if kind == api.File {
			node.Size.At = id
		}
		s.Nodes = append(s.Nodes, node)
		s.Links = append(s.Links, api.Link{Id: id, Node: id, At: id, Parent: parent, Name: name, Alive: api.Vector{time}})
	}
	if below {
		dir = stamp(1, 0)
		add(1, api.Dir, api.Stamp{}, "d")
	}
	add(2, api.File, dir, "a")
	add(3, api.File, dir, "a")
	for i := range n {
		add(4+i, api.File, dir, "a~"+strconv.Itoa(i+1))
	}
	return s
}

// P27.2: the last fresh name, and none.
func TestCallNoName(t *testing.T) {
	k := api.Conflict{Link: stamp(2, 0)}
	if c, ok := heal.Call(row(98, false), k); !ok || c.To != "/a~99" {
		t.Error(c, ok)
	}
	if c, ok := heal.Call(row(99, false), k); ok || c != (api.Call{}) {
		t.Error(c, ok)
	}
	if c, ok := heal.Call(row(98, true), k); !ok || c.To != "/d/a~99" {
		t.Error(c, ok)
	}
	if c, ok := heal.Call(row(99, true), k); !ok || c.To != "/a~1" {
		t.Error(c, ok)
	}
	s := row(99, false)
	if now, l := heal.All(s, 0); len(l) != 0 || !facts.Same(now, s) {
		t.Error("it ends where there is none:", l)
	}
}

// P27.2: what is no conflict.
func TestCallNone(t *testing.T) {
	s := apart(t, facts.Empty(), []api.Call{create("/a"), create("/b"), called(api.CUnlink, "/b", "")}, []api.Call{create("/a")})
	bad := facts.Clone(s)
	bad.Nodes[0].Kind = api.File
	for _, k := range []api.Conflict{{}, {Link: stamp(1, 1)}, {Link: stamp(2, 0)}, {Link: stamp(9, 9)}, {Link: stamp(0, 1)}, {Link: stamp(math.MinInt, math.MaxInt), Path: "/.lost/c1-0"}} {
		if c, ok := heal.Call(s, k); ok || c != (api.Call{}) {
			t.Error(k, c)
		}
	}
	k := heal.List(s)[0]
	if c, ok := heal.Call(bad, k); ok || c != (api.Call{}) {
		t.Error("of what may not be:", c)
	}
	k.Path, k.Wanted, k.Why, k.Other = "", "/elsewhere", 9, stamp(4, 4)
	if c, ok := heal.Call(s, k); !ok || c.To != "/a~1" || c.Path != "/.lost/c1-0" {
		t.Error("its link alone tells:", c, ok)
	}
}

// P27.3
func TestAll(t *testing.T) {
	s := apart(t, facts.Empty(), []api.Call{create("/a"), mkdir("/b")}, []api.Call{create("/a"), mkdir("/b")}, []api.Call{create("/a")})
	was := facts.Clone(s)
	now, l := heal.All(s, 4)
	want := done(t, s, 4, rename("/.lost/c1-0", "/a~1"), rename("/.lost/c1-1", "/a~2"), rename("/.lost/c2-0", "/b~1"))
	if len(l) != 3 || !facts.Same(now, want) || !facts.Same(s, was) {
		t.Fatal(len(l), now, want)
	}
	for i, d := range l {
		if d.Seen != (api.Vector{4: 3 + i}) || len(d.Nodes) != 0 || d.Links[0].Name != []string{"a~1", "a~2", "b~1"}[i] {
			t.Error(i, d)
		}
	}
	for _, who := range []int{-1, 8, math.MaxInt} {
		if now, l := heal.All(s, who); len(l) != 0 || !facts.Same(now, s) {
			t.Error("by nobody:", l)
		}
	}
	bad := facts.Clone(s)
	bad.Seen[0] = -1
	if now, l := heal.All(bad, 0); len(l) != 0 || !facts.Same(now, bad) {
		t.Error("what may not be:", l)
	}
	if now, l := heal.All(facts.Empty(), 0); len(l) != 0 || !facts.Same(now, facts.Empty()) {
		t.Error("none:", l)
	}
	s.Seen[7] = api.MaxTime - 2 // two events are left
	now, l = heal.All(s, 0)
	if len(l) != 2 || len(heal.List(now)) != 1 || now.Seen[0] != api.MaxTime {
		t.Error("till one is refused:", len(l))
	}
}

// P27.1 to P27.5: of any volume that replicas change apart.
func TestAny(t *testing.T) {
	clashes, rounds, healed := 0, 0, 0
	for seed := range 160 {
		w := began(seed, 2+seed%3)
		for range 120 {
			s := w.reps[w.step()]
			l := heal.List(s)
			odd := view.In(view.Shown(s), view.Lost())
			if len(l) != len(odd) {
				t.Fatalf("seed %d: %v of %v", seed, l, odd)
			}
			paths := map[string]api.Stamp{}
			for _, f := range query.Tree(s) {
				paths[f.Path] = f.Node
			}
			for i, k := range l {
				if k.Link != odd[i].Link || k.Path != "/.lost/"+names.Odd(k.Link) || paths[k.Path] != odd[i].Node {
					t.Fatalf("seed %d: %v of %v", seed, k, odd[i])
				}
				wanted(t, s, k)
				if k.Why == api.HClash {
					clashes++
				} else {
					rounds++
				}
			}
			now, deltas := heal.All(s, 6)
			if len(deltas) > len(s.Links) || len(l) > 0 && len(deltas) == 0 {
				t.Fatalf("seed %d: %d of %d", seed, len(deltas), len(l))
			}
			healed += len(deltas)
			all(t, s, now, deltas)
		}
	}
	if clashes < 1000 || rounds < 100 || healed < 1000 {
		t.Error(clashes, rounds, healed)
	}
}

// wanted holds a conflict against where its link was placed.
func wanted(t *testing.T, s api.State, k api.Conflict) {
	t.Helper()
	i := slices.IndexFunc(s.Links, func(l api.Link) bool { return l.Id == k.Link })
	l, dir := s.Links[i], ""
	if l.Parent != (api.Stamp{}) {
		j := slices.IndexFunc(query.Tree(s), func(f api.Found) bool { return f.Node == l.Parent })
		dir = query.Tree(s)[j].Path
	}
	there := slices.IndexFunc(query.Tree(s), func(f api.Found) bool { return f.Path == dir+"/"+l.Name })
	other := slices.IndexFunc(view.Shown(s), func(o api.Shown) bool { return o.Parent == l.Parent && o.Name == l.Name })
	if k.Wanted != dir+"/"+l.Name || (k.Why == api.HClash) != (there >= 0) || (k.Why == api.HRound) != (there < 0) {
		t.Fatal(k, l)
	}
	if there >= 0 && k.Other != view.Shown(s)[other].Link || there < 0 && k.Other != (api.Stamp{}) {
		t.Fatal(k, l)
	}
}

// all holds what came of putting all back against what was written, one by one.
func all(t *testing.T, s, now api.State, deltas []api.State) {
	t.Helper()
	at := s
	for _, d := range deltas {
		k := heal.List(at)[0]
		c, ok := heal.Call(at, k)
		_, out := calls.Do(at, 6, c)
		if !ok || !facts.Same(out, d) {
			t.Fatal(k, c, d)
		}
		was := at
		at = join.States(at, d)
		put(t, was, at, k, c)
	}
	if !facts.Same(at, now) {
		t.Fatal("the state then is another one")
	}
	if l := heal.List(now); len(l) > 0 && len(deltas) < len(s.Links) {
		if c, ok := heal.Call(now, l[0]); ok {
			if ans, _ := calls.Do(now, 6, c); ans.Err == api.OK {
				t.Fatal("there are conflicts yet:", l)
			}
		}
	}
}

// put tells whether a conflict that was put back is where it should be, and nothing that is alive went.
func put(t *testing.T, was, now api.State, k api.Conflict, c api.Call) {
	t.Helper()
	l, err := names.Split(c.To)
	way, e := view.Walk(now, view.Shown(now), l)
	if err != api.OK || e != api.OK || way[len(way)-1].Link != k.Link || way[len(way)-1].Odd || strings.HasPrefix(c.To, "/.lost/") {
		t.Fatal(k, c, way, err, e)
	}
	for _, o := range heal.List(now) {
		if o.Link == k.Link {
			t.Fatal(k, "is a conflict yet")
		}
	}
	for _, o := range was.Links {
		i := slices.IndexFunc(now.Links, func(l api.Link) bool { return l.Id == o.Id })
		if join.Alive(o) && !join.Alive(now.Links[i]) {
			t.Fatal(o, "went")
		}
	}
	for _, o := range view.Shown(was) {
		if !slices.ContainsFunc(view.Shown(now), func(s api.Shown) bool { return s.Link == o.Link }) && join.Alive(was.Links[slices.IndexFunc(was.Links, func(l api.Link) bool { return l.Id == o.Link })]) {
			t.Fatal(o, "does not show")
		}
	}
}
