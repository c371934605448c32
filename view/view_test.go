package view_test

import (
	"math"
	"slices"
	"testing"

	"crannog/api"
	"crannog/facts"
	"crannog/join"
	"crannog/view"
)

const most = api.MaxTime

func stamp(time, who int) api.Stamp { return api.Stamp{Time: time, Who: who} }

var (
	root = api.Stamp{}
	lost = stamp(0, 1)
	full = api.Vector{most, most, most, most, most, most, most, most}
)

// state is one in which all is known: links, and of each an inode of the kind that it leads to.
func state(l ...api.Link) api.State {
	s := facts.Empty()
	s.Seen = full
	for _, k := range l {
		if _, ok := facts.Node(s, k.Node); !ok {
			s.Nodes = append(s.Nodes, inode(k.Node))
		}
	}
	s.Links = append(s.Links, l...)
	slices.SortFunc(s.Nodes, func(a, b api.Inode) int { return order(a.Id, b.Id) })
	slices.SortFunc(s.Links, func(a, b api.Link) int { return order(a.Id, b.Id) })
	return s
}

// order is how stamps stand.
func order(a, b api.Stamp) int {
	if a.Time != b.Time {
		return a.Time - b.Time
	}
	return a.Who - b.Who
}

// inode is a directory of an event of 0 to 4, a file of 5 and 6, a symlink of 7.
func inode(id api.Stamp) api.Inode {
	n := api.Inode{Id: id, Kind: api.Dir, Attr: api.Attr{At: stamp(1, 0), Time: 1 << 63}}
	switch {
	case id.Who == 7:
		n.Kind, n.Text = api.Sym, "t"
	case id.Who >= 5:
		n.Kind, n.Size.At = api.File, id
	}
	return n
}

// link is one that is alive, where its event placed it; it leads to that one's inode.
func link(id, parent api.Stamp, name string, do ...func(l *api.Link)) api.Link {
	l := api.Link{Id: id, Node: id, At: id, Parent: parent, Name: name}
	l.Alive[id.Who] = id.Time
	for _, f := range do {
		f(&l)
	}
	return l
}

func dead(l *api.Link) { l.Dead = full }

func placedBy(at api.Stamp) func(l *api.Link) { return func(l *api.Link) { l.At = at } }

func to(node api.Stamp) func(l *api.Link) { return func(l *api.Link) { l.Node = node } }

// at is a link where it is placed, odd in the directory of conflicts.
func at(l api.Link) api.Shown {
	return api.Shown{Link: l.Id, Node: l.Node, Parent: l.Parent, Name: l.Name}
}

func odd(l api.Link, name string) api.Shown {
	return api.Shown{Link: l.Id, Node: l.Node, Parent: lost, Name: name, Odd: true}
}

// shows tells what shows of a state.
func shows(t *testing.T, what string, s api.State, want ...api.Shown) {
	t.Helper()
	if err := facts.Check(s); err != api.OK {
		t.Fatalf("%s: it may not be: %v", what, s)
	}
	was := facts.Clone(s)
	if got := view.Shown(s); !slices.Equal(got, want) {
		t.Errorf("%s:\n got %v\nwant %v", what, got, want)
	}
	if !facts.Same(s, was) {
		t.Errorf("%s: it is changed", what)
	}
}

// P12.1: its Id is 0, 1, that of no event; it is handed out alike each time.
func TestLost(t *testing.T) {
	if view.Lost() != lost {
		t.Errorf("Lost: %v", view.Lost())
	}
}

// P12.1: by rising directories, in one by names.
func TestShownOrder(t *testing.T) {
	a, b, c := link(stamp(3, 0), root, "b"), link(stamp(4, 0), root, "B"), link(stamp(2, 1), stamp(3, 0), "a")
	f, g := link(stamp(1, 5), stamp(2, 1), "z"), link(stamp(2, 5), stamp(3, 0), "aa")
	h, i := link(stamp(1, 7), root, "\xff"), link(stamp(2, 7), stamp(4, 0), "")
	i.Name = "é"
	shows(t, "an order", state(a, b, c, f, g, h, i), at(b), at(a), at(h), at(f), at(c), at(g), at(i))
	shows(t, "nothing", facts.Empty())
	again, far := link(stamp(9, 5), root, "a", to(stamp(1, 5))), link(stamp(most, 4), stamp(2, 1), "m")
	shows(t, "two links of a file", state(a, c, f, again, far), at(again), at(a), at(far), at(f), at(c))
}

// P12.1: nothing of a state that may not be.
func TestShownMayNot(t *testing.T) {
	for what, do := range map[string]func(s *api.State){
		"no root":             func(s *api.State) { s.Nodes = s.Nodes[1:] },
		"an event not known":  func(s *api.State) { s.Seen[0] = 0 },
		"a name of conflicts": func(s *api.State) { s.Links[0].Name = api.Lost },
		"a link of nothing":   func(s *api.State) { s.Links[0].Node = stamp(7, 7) },
		"in no directory":     func(s *api.State) { s.Links[0].Parent = stamp(7, 7) },
		"in that of conflicts": func(s *api.State) {
			s.Links[0].Parent = lost
		},
		"a Seen that is none": func(s *api.State) { s.Seen[7] = -1 },
		"all is zero":         func(s *api.State) { *s = api.State{} },
	} {
		s := state(link(stamp(1, 0), root, "a"))
		do(&s)
		if l := view.Shown(s); l != nil {
			t.Errorf("%s: %v", what, l)
		}
	}
}

// P12.1: what is alive shows, and the directories on the way to it.
func TestShownAlive(t *testing.T) {
	a, b, c := link(stamp(1, 0), root, "a", dead), link(stamp(2, 0), stamp(1, 0), "b", dead), link(stamp(3, 0), stamp(2, 0), "c", dead)
	f, g := link(stamp(4, 5), stamp(3, 0), "f"), link(stamp(5, 5), root, "g", dead)
	deadF := f
	dead(&deadF)
	shows(t, "all is dead", state(a, b, c, deadF, g))
	shows(t, "a file is alive", state(a, b, c, f, g), at(a), at(b), at(c), at(f))
	aliveB := b
	aliveB.Alive, aliveB.Dead = api.Vector{2, 1}, api.Vector{most}
	shows(t, "a directory is alive", state(a, aliveB, c, deadF, g), at(a), at(aliveB))
	more := link(stamp(6, 5), stamp(2, 0), "more", to(f.Node))
	shows(t, "a link of a file whose other one is dead", state(a, b, c, deadF, more), at(a), at(b), at(more))
	shows(t, "a file's dead link", state(a, b, c, deadF, link(stamp(6, 5), root, "x", to(f.Node))), at(link(stamp(6, 5), root, "x", to(f.Node))))
	high := link(stamp(9, 0), root, "high", dead)
	low := link(stamp(1, 1), stamp(9, 0), "low")
	shows(t, "the directory comes behind in the list", state(low, high), at(high), at(low))
}

// P12.1, with the documents' first example: of those of one name in one directory the one that is placed behind all is there.
func TestShownClashes(t *testing.T) {
	a, b := link(stamp(1, 0), root, "a"), link(stamp(1, 2), root, "a")
	shows(t, "example 1", state(a, b), at(b), odd(a, "c1-0"))
	c, f := link(stamp(26, 3), root, "a"), link(stamp(25, 5), root, "a")
	shows(t, "four", state(a, b, c, f), at(c), odd(a, "c1-0"), odd(b, "c1-2"), odd(f, "c19-5"))
	moved := link(stamp(1, 0), root, "a", placedBy(stamp(2, 0)))
	shows(t, "the elder one was placed later", state(moved, b), at(moved), odd(b, "c1-2"))
	tied := link(stamp(1, 0), root, "a", placedBy(stamp(1, 2)))
	shows(t, "placed at once", state(tied, b), at(b), odd(tied, "c1-0"))
	three := []api.Link{link(stamp(1, 0), root, "a", placedBy(stamp(5, 1))), link(stamp(2, 0), root, "a", placedBy(stamp(5, 1))), link(stamp(3, 0), root, "a", placedBy(stamp(4, 7)))}
	shows(t, "two of three placed at once", state(three...), at(three[1]), odd(three[0], "c1-0"), odd(three[2], "c3-0"))
	who := []api.Link{link(stamp(1, 0), root, "a", placedBy(stamp(5, 2))), link(stamp(2, 0), root, "a", placedBy(stamp(5, 1)))}
	shows(t, "placed by another one at one time", state(who...), at(who[0]), odd(who[1], "c2-0"))
}

// P12.1: what does not show has no name; other names, and other directories, are none of it.
func TestShownNoClash(t *testing.T) {
	a, b := link(stamp(1, 0), root, "a"), link(stamp(1, 2), root, "a", dead)
	shows(t, "a dead one", state(a, b), at(a))
	in := link(stamp(2, 0), stamp(1, 0), "a")
	big := link(stamp(3, 0), root, "A")
	shows(t, "other names", state(a, in, big), at(big), at(a), at(in))
	f := link(stamp(2, 5), stamp(1, 2), "f")
	shows(t, "a dead one that shows for what it has", state(a, b, f), at(b), odd(a, "c1-0"), at(f))
	g := link(stamp(4, 5), stamp(1, 0), "f", to(f.Node))
	shows(t, "below what is odd", state(a, link(stamp(1, 2), root, "a"), g), at(link(stamp(1, 2), root, "a")), odd(a, "c1-0"), at(g))
	odds := link(stamp(1, 1), root, "c1-0")
	shows(t, "an odd one's name elsewhere", state(a, odds, link(stamp(1, 2), root, "a")), at(link(stamp(1, 2), root, "a")), at(odds), odd(a, "c1-0"))
	late := link(stamp(most, 4), root, "a")
	shows(t, "the latest event", state(late, link(stamp(most, 6), root, "a")), at(link(stamp(most, 6), root, "a")), odd(late, "c10000000000-4"))
}

// P12.1: of a round the one that is placed behind all others is odd.
func TestShownRounds(t *testing.T) {
	x, y, z := stamp(1, 0), stamp(2, 0), stamp(3, 0)
	a, b := link(x, y, "x", placedBy(stamp(9, 1))), link(y, x, "y", placedBy(stamp(9, 2)))
	shows(t, "two", state(a, b), odd(b, "c2-0"), at(a))
	a, b = link(x, y, "x", placedBy(stamp(9, 3))), link(y, x, "y", placedBy(stamp(9, 2)))
	shows(t, "two, the other way", state(a, b), odd(a, "c1-0"), at(b))
	a.At = b.At
	shows(t, "placed at once", state(a, b), odd(b, "c2-0"), at(a))
	self := link(x, x, "x")
	shows(t, "one in itself", state(self), odd(self, "c1-0"))
	f := link(stamp(4, 5), x, "f")
	shows(t, "one in itself, and what is below", state(self, f), odd(self, "c1-0"), at(f))
	self.Dead = full
	shows(t, "a dead one in itself, for what it has", state(self, f), odd(self, "c1-0"), at(f))
	shows(t, "a dead one in itself", state(self))
	a, b = link(x, y, "x", placedBy(stamp(5, 0))), link(y, z, "y", placedBy(stamp(7, 0)))
	c := link(z, x, "z", placedBy(stamp(6, 0)))
	shows(t, "three", state(a, b, c), odd(b, "c2-0"), at(c), at(a))
	a.At, b.At, c.At = stamp(6, 0), stamp(6, 0), stamp(6, 0)
	shows(t, "three at once", state(a, b, c), odd(c, "c3-0"), at(a), at(b))
	dead(&a)
	dead(&b)
	shows(t, "one of a round is alive", state(a, b, c), odd(c, "c3-0"), at(a), at(b))
	dead(&c)
	shows(t, "a dead round", state(a, b, c))
	shows(t, "a dead round, for what it has", state(a, b, c, f), odd(c, "c3-0"), at(f), at(a), at(b))
	low := link(stamp(5, 0), x, "low")
	shows(t, "what hangs below is in no round", state(a, b, c, low, link(stamp(6, 5), stamp(5, 0), "g")), odd(c, "c3-0"), at(low), at(a), at(b), at(link(stamp(6, 5), stamp(5, 0), "g")))
}

// P12.1: more rounds than one, each with its own odd one; what is odd for a round is in nobody's way.
func TestShownRoundsAndClashes(t *testing.T) {
	a, b := link(stamp(1, 0), stamp(2, 0), "n"), link(stamp(2, 0), stamp(1, 0), "n")
	c, d := link(stamp(3, 0), stamp(4, 0), "n", placedBy(stamp(8, 0))), link(stamp(4, 0), stamp(3, 0), "n")
	shows(t, "two rounds", state(a, b, c, d), odd(b, "c2-0"), odd(c, "c3-0"), at(a), at(d))
	f := link(stamp(1, 5), stamp(1, 0), "n")
	shows(t, "the name of one that is odd for a round", state(a, b, f), odd(b, "c2-0"), at(f), at(a))
	f.At = stamp(9, 0)
	shows(t, "the same, placed behind", state(a, b, f), odd(b, "c2-0"), at(f), at(a))
	g := link(stamp(1, 5), stamp(2, 0), "n")
	shows(t, "the name of the other one", state(a, b, g), odd(a, "c1-0"), odd(b, "c2-0"), at(g))
	g.At = stamp(1, 0)
	shows(t, "the same, at once", state(a, b, g), odd(a, "c1-0"), odd(b, "c2-0"), at(g))
}

// P12.1: the largest states that may be.
func TestShownMany(t *testing.T) {
	var l []api.Link
	var want []api.Shown
	for i := range 479 {
		l = append(l, link(stamp(i+1, 0), stamp(i, 0), "n"))
		want = append(want, at(l[i]))
	}
	shows(t, "deep", state(l...), want...)
	for i := range 478 {
		dead(&l[i])
	}
	shows(t, "deep and alive below", state(l...), want...)
	dead(&l[478])
	shows(t, "deep and dead", state(l...))
	l[0].Parent = stamp(479, 0)
	l[200].Dead = api.Vector{}
	l[77].At = stamp(most, 3)
	want = append([]api.Shown{odd(l[77], "c4e-0")}, slices.Delete(slices.Clone(want), 77, 78)...)
	want = append(append(want[:1:1], want[2:]...), at(l[0]))
	shows(t, "a great round", state(l...), want...)
}

// P12.2
func TestIn(t *testing.T) {
	l := []api.Shown{{Link: stamp(3, 0), Parent: stamp(2, 0), Name: "z"}, {Link: stamp(1, 0), Name: "b"}, {Link: stamp(4, 0), Parent: stamp(2, 0), Name: "a", Odd: true}, {Link: stamp(1, 0), Name: "b"}, {Parent: lost, Name: "c"}, {Parent: stamp(-2, 99)}}
	was := slices.Clone(l)
	for dir, want := range map[api.Stamp][]api.Shown{
		root:           {l[1], l[3]},
		lost:           {l[4]},
		stamp(2, 0):    {l[0], l[2]},
		stamp(-2, 99):  {l[5]},
		stamp(3, 0):    nil,
		stamp(0, 2):    nil,
		stamp(most, 7): nil,
	} {
		got := view.In(l, dir)
		if !slices.Equal(got, want) {
			t.Errorf("In(%v): %v", dir, got)
		}
		for i := range got {
			got[i].Name = "changed"
		}
		_ = append(got, api.Shown{Name: "more"})
		if !slices.Equal(l, was) {
			t.Fatalf("In(%v) shares the list", dir)
		}
	}
	if got := view.In(nil, root); len(got) != 0 {
		t.Errorf("In of nothing: %v", got)
	}
	if got := view.In(make([]api.Shown, 3, 9), root); len(got) != 3 {
		t.Errorf("In of zeros: %v", got)
	}
}

// P12.2
func TestKind(t *testing.T) {
	s := api.State{Nodes: []api.Inode{{Id: stamp(1, 0), Kind: api.File}, {Id: stamp(2, 0), Kind: api.Sym}, {Id: stamp(1, 0), Kind: api.Dir}, {Id: lost, Kind: api.File}, {Id: stamp(-1, 9), Kind: 77}}}
	for id, want := range map[api.Stamp]int{stamp(1, 0): api.File, stamp(2, 0): api.Sym, lost: api.Dir, stamp(-1, 9): 77, root: 0, stamp(3, 0): 0, stamp(0, 2): 0, stamp(1, 1): 0} {
		if got := view.Kind(s, id); got != want {
			t.Errorf("Kind(%v): %d", id, got)
		}
	}
	if view.Kind(facts.Empty(), root) != api.Dir || view.Kind(api.State{}, lost) != api.Dir || view.Kind(api.State{}, root) != 0 {
		t.Error("Kind of the root, of the directory of conflicts")
	}
}

// P12.2
func TestLinks(t *testing.T) {
	l := []api.Shown{{Node: stamp(1, 0), Link: stamp(2, 0)}, {Node: stamp(2, 0), Parent: stamp(1, 0)}, {Node: stamp(1, 0), Odd: true}, {Node: stamp(1, 0)}, {}}
	for id, want := range map[api.Stamp]int{stamp(1, 0): 3, stamp(2, 0): 1, root: 1, lost: 0, stamp(1, 1): 0} {
		if got := view.Links(l, id); got != want {
			t.Errorf("Links(%v): %d", id, got)
		}
	}
	if view.Links(nil, root) != 0 {
		t.Error("Links of nothing")
	}
}

// walk is a state and what shows of it, made by hand: /d/f, /d/.lost, /s, /.lost/c9-0 with f in it, /twice, /none, and /.lost as something.
func walk() (api.State, []api.Shown) {
	s := api.State{Nodes: []api.Inode{{Id: stamp(1, 0), Kind: api.Dir}, {Id: stamp(2, 0), Kind: api.File}, {Id: stamp(3, 0), Kind: api.Sym}, {Id: stamp(9, 0), Kind: api.Dir}, {Id: stamp(2, 0), Kind: api.Dir}, {Id: lost, Kind: api.File}}}
	return s, []api.Shown{
		{Link: stamp(1, 0), Node: stamp(1, 0), Name: "d"},
		{Link: stamp(2, 0), Node: stamp(2, 0), Parent: stamp(1, 0), Name: "f"},
		{Link: stamp(3, 0), Node: stamp(3, 0), Name: "s"},
		{Link: stamp(4, 0), Node: stamp(2, 0), Parent: stamp(1, 0), Name: ".lost"},
		{Link: stamp(9, 0), Node: stamp(9, 0), Parent: lost, Name: "c9-0", Odd: true},
		{Link: stamp(5, 0), Node: stamp(2, 0), Parent: stamp(9, 0), Name: "f"},
		{Link: stamp(6, 0), Node: stamp(1, 0), Name: "twice"},
		{Link: stamp(7, 0), Node: stamp(3, 0), Name: "twice"},
		{Link: stamp(8, 0), Node: stamp(8, 8), Name: "none"},
		{Link: stamp(8, 1), Node: stamp(3, 0), Name: ".lost"},
		{Link: stamp(8, 2), Node: stamp(3, 0), Parent: stamp(3, 0), Name: "in"},
		{Link: stamp(8, 3), Node: stamp(1, 0), Parent: stamp(1, 0), Name: "."},
		{Link: stamp(8, 4), Node: root, Parent: stamp(1, 0), Name: ".."},
		{Link: stamp(8, 5), Node: stamp(9, 0), Parent: stamp(9, 0), Name: ""},
	}
}

// P12.2
func TestWalk(t *testing.T) {
	s, l := walk()
	conflicts := api.Shown{Node: lost, Name: ".lost"}
	for _, c := range []struct {
		path []string
		want []api.Shown
		err  api.Errno
	}{
		{nil, nil, api.OK},
		{[]string{}, nil, api.OK},
		{[]string{"d"}, l[:1], api.OK},
		{[]string{"d", "f"}, l[:2], api.OK},
		{[]string{"s"}, l[2:3], api.OK},
		{[]string{"none"}, l[8:9], api.OK},
		{[]string{"twice"}, l[6:7], api.OK},
		{[]string{"twice", "f"}, []api.Shown{l[6], l[1]}, api.OK},
		{[]string{".lost"}, []api.Shown{conflicts}, api.OK},
		{[]string{".lost", "c9-0"}, []api.Shown{conflicts, l[4]}, api.OK},
		{[]string{".lost", "c9-0", "f"}, []api.Shown{conflicts, l[4], l[5]}, api.OK},
		{[]string{".lost", "c9-0", "", "", "f"}, []api.Shown{conflicts, l[4], l[13], l[13], l[5]}, api.OK},
		{[]string{"d", ".lost"}, []api.Shown{l[0], l[3]}, api.OK},
		{[]string{"d", ".", ".", "f"}, []api.Shown{l[0], l[11], l[11], l[1]}, api.OK},
		{[]string{"d", ".."}, []api.Shown{l[0], l[12]}, api.OK},
		{[]string{"x"}, nil, api.ENOENT},
		{[]string{""}, nil, api.ENOENT},
		{[]string{"D"}, nil, api.ENOENT},
		{[]string{"f"}, nil, api.ENOENT},
		{[]string{"c9-0"}, nil, api.ENOENT},
		{[]string{"d", "x"}, nil, api.ENOENT},
		{[]string{"d", "x", "f"}, nil, api.ENOENT},
		{[]string{".lost", "x"}, nil, api.ENOENT},
		{[]string{".lost", ".lost"}, nil, api.ENOENT},
		{[]string{"x", "x", "x"}, nil, api.ENOENT},
		{[]string{"d", "f", "x"}, nil, api.ENOTDIR},
		{[]string{"s", "x"}, nil, api.ENOTDIR},
		{[]string{"s", "in"}, nil, api.ENOTDIR},
		{[]string{"none", "x"}, nil, api.ENOTDIR},
		{[]string{"d", ".lost", "x"}, nil, api.ENOTDIR},
		{[]string{".lost", "c9-0", "f", "x", "y"}, nil, api.ENOTDIR},
		{[]string{"d", "..", "d"}, nil, api.ENOTDIR},
		{[]string{"d", "f", "x", "x"}, nil, api.ENOTDIR},
	} {
		a, b, path := facts.Clone(s), slices.Clone(l), slices.Clone(c.path)
		got, err := view.Walk(s, l, c.path)
		if err != c.err || !slices.Equal(got, c.want) || err != api.OK && got != nil {
			t.Errorf("Walk(%q): %v, %v", c.path, got, err)
		}
		for i := range got {
			got[i].Name = "changed"
		}
		if !facts.Same(s, a) || !slices.Equal(l, b) || !slices.Equal(c.path, path) {
			t.Fatalf("Walk(%q) changed something", c.path)
		}
	}
}

// P12.2: the root is one by its Id, wherever one comes to it, and what stands in the root is asked for there be it known or not.
func TestWalkRoot(t *testing.T) {
	s, l := walk()
	s.Nodes = append(s.Nodes, api.Inode{Kind: api.Dir})
	got, err := view.Walk(s, l, []string{"d", "..", ".lost", "c9-0"})
	want := []api.Shown{l[0], l[12], {Node: lost, Name: ".lost"}, l[4]}
	if err != api.OK || !slices.Equal(got, want) {
		t.Errorf("over the root: %v, %v", got, err)
	}
	if got, err = view.Walk(s, l, []string{"d", "..", "s"}); err != api.OK || !slices.Equal(got, []api.Shown{l[0], l[12], l[2]}) {
		t.Errorf("over the root: %v, %v", got, err)
	}
	if got, err = view.Walk(api.State{}, l, []string{"d"}); err != api.OK || !slices.Equal(got, l[:1]) {
		t.Errorf("of no inodes: %v, %v", got, err)
	}
	if got, err = view.Walk(api.State{}, l, []string{"d", "f"}); err != api.ENOTDIR || got != nil {
		t.Errorf("of no inodes, two names: %v, %v", got, err)
	}
	if got, err = view.Walk(api.State{}, nil, []string{".lost"}); err != api.OK || !slices.Equal(got, []api.Shown{{Node: lost, Name: ".lost"}}) {
		t.Errorf("of nothing: %v, %v", got, err)
	}
	if got, err = view.Walk(api.State{}, nil, []string{".lost", "x"}); err != api.ENOENT || got != nil {
		t.Errorf("of nothing, two names: %v, %v", got, err)
	}
	if got, err = view.Walk(facts.Empty(), nil, []string{"x"}); err != api.ENOENT || got != nil {
		t.Errorf("of nothing, one name: %v, %v", got, err)
	}
}

// DOC, Ends: long lists, and states that may not be.
func TestLong(t *testing.T) {
	const many = 100000
	var s api.State
	var l []api.Shown
	var path []string
	for i := range many {
		s.Nodes = append(s.Nodes, api.Inode{Id: stamp(many-i, 0), Kind: api.Dir})
		s.Links = append(s.Links, link(stamp(i+1, 0), stamp(i, 0), "n"))
		l = append(l, api.Shown{Node: stamp(many-i, 0), Parent: stamp(many-i-1, 0), Name: "n"})
		path = append(path, "n")
	}
	got, err := view.Walk(s, l, path)
	if err != api.OK || len(got) != many || got[many-1] != l[0] {
		t.Errorf("a long way: %d, %v", len(got), err)
	}
	if got := view.Shown(s); got != nil {
		t.Errorf("Shown of too much: %d", len(got))
	}
	if n := view.Links(l, stamp(1, 0)); n != 1 || len(view.In(l, root)) != 1 || view.Kind(s, stamp(1, 0)) != api.Dir {
		t.Errorf("Links %d", n)
	}
	odd := api.State{Seen: api.Vector{math.MaxInt, math.MinInt}, Nodes: []api.Inode{{Kind: math.MinInt}}, Links: []api.Link{{Node: stamp(math.MinInt, math.MaxInt)}}}
	if view.Shown(odd) != nil || view.Kind(odd, root) != math.MinInt {
		t.Error("what can't be")
	}
}

// DOC, example 3, and chapter 11's: something was done through a link, unheard of its unlinking.
func TestUnheard(t *testing.T) {
	d, f := link(stamp(1, 0), root, "d"), link(stamp(2, 5), stamp(1, 0), "f")
	d.Dead = api.Vector{1, 1}
	s := state(d)
	shows(t, "a directory that one removed", s)
	touched := api.State{Seen: full, Links: []api.Link{{Id: d.Id, Alive: api.Vector{5: 2}}, f}, Nodes: []api.Inode{inode(f.Node)}}
	s = join.States(s, touched)
	shows(t, "another one made a file in it", s, at(d), at(f))
	if !join.Alive(s.Links[0]) {
		t.Error("it is not alive")
	}
	dead(&s.Links[1])
	shows(t, "that was unlinked", s, at(d))
}
