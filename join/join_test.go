package join_test

import (
	"math"
	"slices"
	"strings"
	"testing"

	"crannog/api"
	"crannog/facts"
	"crannog/join"
)

const most = api.MaxTime

func stamp(time, who int) api.Stamp { return api.Stamp{Time: time, Who: who} }

var root = api.Stamp{}

// node and link are an inode and a link of an event, and what is done to them.
func node(id api.Stamp, do ...func(n *api.Inode)) api.Inode {
	n := api.Inode{Id: id}
	for _, f := range do {
		f(&n)
	}
	return n
}

func link(id api.Stamp, do ...func(l *api.Link)) api.Link {
	l := api.Link{Id: id}
	for _, f := range do {
		f(&l)
	}
	return l
}

func nodes(l ...api.Inode) api.State { return api.State{Nodes: l} }

func links(l ...api.Link) api.State { return api.State{Links: l} }

// is tells that states are alike, and of what.
func is(t *testing.T, what string, got, want api.State) {
	t.Helper()
	if !facts.Same(got, want) {
		t.Errorf("%s:\n got %v\nwant %v", what, got, want)
	}
}

// both tells what two states are as one, whichever comes first, and that neither is changed.
func both(t *testing.T, what string, a, b, want api.State) {
	t.Helper()
	c, d := facts.Clone(a), facts.Clone(b)
	is(t, what, join.States(a, b), want)
	is(t, what+", the other way", join.States(b, a), want)
	is(t, what+": the first one is changed", a, c)
	is(t, what+": the second one is changed", b, d)
}

// P11.1
func TestSeen(t *testing.T) {
	a := api.State{Seen: api.Vector{1, 5, 0, most, 7, -3, math.MinInt, 4}}
	b := api.State{Seen: api.Vector{2, 3, 0, 9, 7, -4, math.MaxInt, 4}}
	both(t, "Seen", a, b, api.State{Seen: api.Vector{2, 5, 0, most, 7, -3, math.MaxInt, 4}})
	both(t, "nothing", api.State{}, api.State{Nodes: []api.Inode{}, Links: []api.Link{}}, api.State{})
	both(t, "Empty and nothing", facts.Empty(), api.State{}, facts.Empty())
}

// P11.1: all of both, by rising Ids, of each one.
func TestIds(t *testing.T) {
	l := []api.Stamp{stamp(math.MinInt, 3), stamp(-1, 0), root, stamp(0, 1), stamp(1, 0), stamp(1, 1), stamp(1, math.MaxInt), stamp(2, 0), stamp(most+1, 9)}
	var want, up, down api.State
	for i, id := range l {
		n, k := node(id, func(n *api.Inode) { n.Kind = i }), link(id, func(l *api.Link) { l.Name = "n" })
		want.Nodes, want.Links = append(want.Nodes, n), append(want.Links, k)
		if i%3 != 0 {
			up.Nodes, up.Links = append(up.Nodes, n), append(up.Links, k)
		}
		if i%3 != 1 {
			down.Nodes, down.Links = append(down.Nodes, n), append(down.Links, k)
		}
	}
	both(t, "both rising", up, down, want)
	slices.Reverse(down.Nodes)
	slices.Reverse(down.Links)
	both(t, "one falling", up, down, want)
	both(t, "one alone, falling", down, api.State{}, join.States(down, down))
	down.Nodes, down.Links = append(down.Nodes, up.Nodes...), append(down.Links, up.Links...)
	both(t, "all in one, and twice", down, down, want)
	both(t, "all in one, and nothing", down, api.State{}, want)
}

// P11.1: of one Id the greatest Kind, and the greatest Text.
func TestKindText(t *testing.T) {
	id := stamp(4, 1)
	kind := func(k int) func(n *api.Inode) { return func(n *api.Inode) { n.Kind = k } }
	text := func(s string) func(n *api.Inode) { return func(n *api.Inode) { n.Text = s } }
	for _, c := range [][2]int{{0, 1}, {1, 2}, {2, 3}, {-5, 0}, {math.MinInt, math.MaxInt}, {2, 2}} {
		both(t, "Kind", nodes(node(id, kind(c[0]))), nodes(node(id, kind(c[1]))), nodes(node(id, kind(c[1]))))
	}
	for _, c := range [][2]string{{"", "a"}, {"a", "b"}, {"a", "aa"}, {"B", "a"}, {"é", "\xff"}, {"zz", "é"}, {"b", "b"}} {
		both(t, "Text", nodes(node(id, text(c[0]))), nodes(node(id, text(c[1]))), nodes(node(id, text(c[1]))))
	}
	a, b := node(id, kind(3), text("a")), node(id, kind(2), text("b"))
	both(t, "each by itself", nodes(a), nodes(b), nodes(node(id, kind(3), text("b"))))
}

// rising are the stamps of At, each behind the one ahead of it.
var rising = []api.Stamp{stamp(math.MinInt, 0), stamp(-1, 9), root, stamp(0, 1), stamp(1, 0), stamp(1, 7), stamp(2, -1), stamp(2, 0), stamp(most, 7), stamp(math.MaxInt, 0)}

// order tells that of each two in a row of states, in which one register rises, the one behind is there.
func order(t *testing.T, what string, l []api.State) {
	t.Helper()
	for i, b := range l {
		for _, a := range l[:i+1] {
			both(t, what, a, b, b)
		}
	}
}

// P11.1, registers: by At, alike ones by Mode, then Time.
func TestAttr(t *testing.T) {
	var l []api.State
	for _, at := range rising {
		for _, mode := range []int{math.MinInt, -1, 0, 1, 511, math.MaxInt} {
			for _, time := range []uint64{0, 1, 1 << 63, math.MaxUint64} {
				l = append(l, nodes(node(stamp(1, 0), func(n *api.Inode) { n.Attr = api.Attr{At: at, Mode: mode, Time: time} })))
			}
		}
	}
	order(t, "Attr", l)
}

// P11.1, registers: Size by N.
func TestSize(t *testing.T) {
	var l []api.State
	for _, at := range rising {
		for _, n := range []int{math.MinInt, -1, 0, 1, 1024, math.MaxInt} {
			l = append(l, nodes(node(stamp(1, 0), func(i *api.Inode) { i.Size = api.Size{At: at, N: n} })))
		}
	}
	order(t, "Size", l)
}

var texts = []string{"", "\x00", "A", "a", "aa", "b", "é", "\xff"}

// P11.1, registers: a piece by Data.
func TestPiece(t *testing.T) {
	for _, index := range []int{0, 15, -4, math.MaxInt} {
		var l []api.State
		for _, at := range rising {
			for _, data := range texts {
				l = append(l, nodes(node(stamp(1, 0), func(n *api.Inode) { n.Pieces = []api.Piece{{Index: index, At: at, Data: data}} })))
			}
		}
		order(t, "a piece", l)
	}
}

// P11.1, registers: an xattr by Gone (false ahead of true), then Val.
func TestXattr(t *testing.T) {
	for _, name := range []string{"", "a", "user"} {
		var l []api.State
		for _, at := range rising {
			for _, gone := range []bool{false, true} {
				for _, val := range texts {
					l = append(l, nodes(node(stamp(1, 0), func(n *api.Inode) { n.Xattrs = []api.Xattr{{Name: name, At: at, Val: val, Gone: gone}} })))
				}
			}
		}
		order(t, "an xattr", l)
	}
}

// P11.1, registers: a link's place by Parent, then Name.
func TestPlace(t *testing.T) {
	var l []api.State
	for _, at := range rising {
		for _, parent := range rising {
			for _, name := range []string{"", "a", "b", "\xff"} {
				l = append(l, links(link(stamp(1, 0), func(k *api.Link) { k.At, k.Parent, k.Name = at, parent, name })))
			}
		}
	}
	order(t, "a place", l)
}

// P11.1: each register by itself.
func TestRegistersApart(t *testing.T) {
	a := node(stamp(1, 0), func(n *api.Inode) {
		n.Attr, n.Size = api.Attr{At: stamp(5, 0), Mode: 1, Time: 9}, api.Size{At: stamp(2, 0), N: 70}
		n.Pieces = []api.Piece{{Index: 0, At: stamp(5, 1), Data: "a0"}, {Index: 2, At: stamp(3, 1), Data: "a2"}, {Index: 4, At: stamp(1, 0)}}
		n.Xattrs = []api.Xattr{{Name: "a", At: stamp(5, 1), Val: "aa"}, {Name: "b", At: stamp(3, 1), Val: "ab"}, {Name: "c", At: stamp(1, 0)}}
	})
	b := node(stamp(1, 0), func(n *api.Inode) {
		n.Attr, n.Size = api.Attr{At: stamp(4, 7), Mode: 2, Time: 10}, api.Size{At: stamp(2, 1), N: 4}
		n.Pieces = []api.Piece{{Index: 0, At: stamp(5, 0), Data: "b0"}, {Index: 1, At: stamp(2, 1), Data: "b1"}, {Index: 2, At: stamp(3, 2), Data: "b2"}}
		n.Xattrs = []api.Xattr{{Name: "a", At: stamp(5, 0), Val: "ba"}, {Name: "aa", At: stamp(2, 1), Val: "baa"}, {Name: "b", At: stamp(3, 2), Gone: true}}
	})
	want := node(stamp(1, 0), func(n *api.Inode) {
		n.Attr, n.Size = a.Attr, b.Size
		n.Pieces = []api.Piece{a.Pieces[0], b.Pieces[1], b.Pieces[2], a.Pieces[2]}
		n.Xattrs = []api.Xattr{a.Xattrs[0], b.Xattrs[1], b.Xattrs[2], a.Xattrs[2]}
	})
	both(t, "registers of an inode", nodes(a), nodes(b), nodes(want))
	x := link(stamp(1, 0), func(l *api.Link) {
		l.Node, l.At, l.Parent, l.Name = stamp(2, 0), stamp(3, 0), stamp(9, 9), "z"
		l.Alive, l.Dead = api.Vector{1, 5, 0, 4}, api.Vector{7, 0, 2}
	})
	y := link(stamp(1, 0), func(l *api.Link) {
		l.Node, l.At, l.Parent, l.Name = stamp(1, 7), stamp(3, 1), root, "a"
		l.Alive, l.Dead = api.Vector{2, 3, 0, 4, 0, 0, 0, 1}, api.Vector{3, 1, 2, -4}
	})
	one := link(stamp(1, 0), func(l *api.Link) {
		l.Node, l.At, l.Parent, l.Name = stamp(2, 0), stamp(3, 1), root, "a"
		l.Alive, l.Dead = api.Vector{2, 5, 0, 4, 0, 0, 0, 1}, api.Vector{7, 1, 2}
	})
	both(t, "registers of a link", links(x), links(y), links(one))
}

// P11.1: what touches a link, or kills it, has no place of its own.
func TestTouched(t *testing.T) {
	l := link(stamp(1, 0), func(l *api.Link) {
		l.Node, l.At, l.Parent, l.Name, l.Alive = stamp(1, 0), stamp(1, 0), root, "a", api.Vector{1}
	})
	touched, killed := l, l
	touched.Alive, killed.Dead = api.Vector{1, 0, 4}, api.Vector{1, 5}
	both(t, "touched", links(l), links(api.Link{Id: l.Id, Alive: api.Vector{0, 0, 4}}), links(touched))
	both(t, "killed", links(l), links(api.Link{Id: l.Id, Dead: api.Vector{1, 5}}), links(killed))
	for _, node := range rising {
		both(t, "the greatest Node", links(api.Link{Node: rising[0]}), links(api.Link{Node: node}), links(api.Link{Node: node}))
	}
}

// P11.1: lists that are in no order, and have something twice, though they come alone.
func TestLoose(t *testing.T) {
	n := node(stamp(1, 0), func(n *api.Inode) {
		n.Pieces = []api.Piece{{Index: 3, At: stamp(1, 0)}, {Index: -1, Data: "m"}, {Index: 3, At: stamp(1, 1), Data: "x"}, {Index: 0}, {Index: 3, At: stamp(1, 0), Data: "z"}}
		n.Xattrs = []api.Xattr{{Name: "b"}, {Name: "", Val: "e"}, {Name: "b", Gone: true}, {Name: "a"}, {Name: "b", Val: "z"}}
	})
	want := node(stamp(1, 0), func(n *api.Inode) {
		n.Pieces = []api.Piece{{Index: -1, Data: "m"}, {Index: 0}, {Index: 3, At: stamp(1, 1), Data: "x"}}
		n.Xattrs = []api.Xattr{{Name: "", Val: "e"}, {Name: "a"}, {Name: "b", Gone: true}}
	})
	both(t, "alone", nodes(n), api.State{}, nodes(want))
	both(t, "with itself", nodes(n), nodes(n), nodes(want))
	half := node(stamp(1, 0), func(m *api.Inode) { m.Pieces, m.Xattrs = n.Pieces[2:], n.Xattrs[2:] })
	rest := node(stamp(1, 0), func(m *api.Inode) { m.Pieces, m.Xattrs = n.Pieces[:2], n.Xattrs[:2] })
	both(t, "twice in one list", nodes(half, node(stamp(0, 0)), rest), api.State{}, nodes(node(stamp(0, 0)), want))
}

// P11.2
func TestMerge(t *testing.T) {
	id, other := stamp(3, 1), stamp(2, 0)
	with := api.State{Seen: api.Vector{2, 3}, Nodes: []api.Inode{node(root), node(id)}, Links: []api.Link{link(other)}}
	for _, c := range []struct {
		what        string
		seen        api.Vector
		node, links bool // there are behind it
	}{
		{"neither is known", api.Vector{1, 2}, true, true},
		{"the inode is, and was pruned", api.Vector{1, 3}, false, true},
		{"the link is", api.Vector{2, 2}, true, false},
		{"both are", api.Vector{most, most}, false, false},
		{"others' events", api.Vector{0, 0, 9, 9, 9, 9, 9, 9}, true, true},
	} {
		b := api.State{Seen: c.seen, Nodes: []api.Inode{node(root)}}
		want := join.States(with, b)
		if !c.node {
			want.Nodes = want.Nodes[:1]
		}
		if !c.links {
			want.Links = nil
		}
		x, y := facts.Clone(with), facts.Clone(b)
		is(t, c.what, join.Merge(with, b), want)
		is(t, c.what+", the other way", join.Merge(b, with), want)
		is(t, c.what+": changed", with, x)
		is(t, c.what+": changed, too", b, y)
	}
}

// P11.2: an inode and a link of one Id are two; what no event made is not pruned; what both have stays.
func TestMergeApart(t *testing.T) {
	id := stamp(3, 1)
	full := api.Vector{most, most, most, most, most, most, most, most}
	n, l := api.State{Seen: full, Nodes: []api.Inode{node(id)}}, api.State{Seen: full, Links: []api.Link{link(id)}}
	is(t, "an inode, and a link", join.Merge(n, l), api.State{Seen: full})
	is(t, "a link, and an inode", join.Merge(l, n), api.State{Seen: full})
	is(t, "nothing knows nothing", join.Merge(n, api.State{}), n)
	none := api.State{Seen: api.Vector{math.MaxInt, math.MaxInt}, Nodes: []api.Inode{node(root), node(stamp(0, 1))}}
	for _, id := range []api.Stamp{root, stamp(0, 1), stamp(-1, 0), stamp(most+1, 0), stamp(1, 8), stamp(1, -1)} {
		none.Nodes, none.Links = []api.Inode{node(id)}, []api.Link{link(id)}
		is(t, "of no event", join.Merge(none, api.State{Seen: full}), join.States(none, api.State{Seen: full}))
		is(t, "of no event, the other way", join.Merge(api.State{Seen: none.Seen}, none), none)
	}
	twice := api.State{Seen: full, Nodes: []api.Inode{node(id), node(id)}, Links: []api.Link{link(id), link(id)}}
	once := api.State{Seen: full, Nodes: []api.Inode{node(id)}, Links: []api.Link{link(id)}}
	is(t, "both have it", join.Merge(twice, once), once)
	gone := api.State{Seen: full}
	is(t, "one of both had what only it knew", join.Merge(api.State{Seen: api.Vector{}, Nodes: once.Nodes}, gone), gone)
	is(t, "its own, that it should have pruned", join.Merge(once, api.State{}), once)
}

// P11.3, with the document's example
func TestAlive(t *testing.T) {
	for _, c := range []struct {
		what        string
		alive, dead api.Vector
		want        bool
	}{
		{"just made", api.Vector{1}, api.Vector{}, true},
		{"unlinked", api.Vector{1}, api.Vector{1, 2}, false},
		{"unlinked by its maker", api.Vector{1}, api.Vector{2}, false},
		{"done through it, unheard of it", api.Vector{1, 0, 3}, api.Vector{1, 4}, true},
		{"done through it, known", api.Vector{1, 0, 3}, api.Vector{1, 4, 3}, false},
		{"the last replica's", api.Vector{7: 1}, api.Vector{most, most, most, most, most, most, most, 0}, true},
		{"nothing", api.Vector{}, api.Vector{}, false},
		{"below nothing", api.Vector{-1}, api.Vector{}, false},
		{"above less", api.Vector{-1}, api.Vector{-2}, true},
		{"huge", api.Vector{math.MaxInt}, api.Vector{math.MaxInt}, false},
	} {
		if got := join.Alive(api.Link{Id: stamp(9, 9), Name: "x", Alive: c.alive, Dead: c.dead}); got != c.want {
			t.Errorf("%s: %v", c.what, got)
		}
	}
}

// scribble writes over all lists of a state, the room behind them, too.
func scribble(s api.State) {
	for i, n := range s.Nodes[:cap(s.Nodes)] {
		scribbleNode(n)
		s.Nodes[:cap(s.Nodes)][i] = api.Inode{Text: "scribbled"}
	}
	for i := range s.Links[:cap(s.Links)] {
		s.Links[:cap(s.Links)][i] = api.Link{Name: "scribbled"}
	}
}

func scribbleNode(n api.Inode) {
	for i := range n.Pieces[:cap(n.Pieces)] {
		n.Pieces[:cap(n.Pieces)][i] = api.Piece{Index: 99, Data: "scribbled"}
	}
	for i := range n.Xattrs[:cap(n.Xattrs)] {
		n.Xattrs[:cap(n.Xattrs)][i] = api.Xattr{Name: "scribbled"}
	}
}

// roomy is a state once more, with something in the room behind its lists.
func roomy(s api.State) api.State {
	s = facts.Clone(s)
	for i, n := range s.Nodes {
		s.Nodes[i].Pieces = append(n.Pieces, api.Piece{Data: "behind"})[:len(n.Pieces)]
		s.Nodes[i].Xattrs = append(n.Xattrs, api.Xattr{Val: "behind"})[:len(n.Xattrs)]
	}
	n, l := len(s.Nodes), len(s.Links)
	s.Nodes, s.Links = append(s.Nodes, api.Inode{Text: "behind"})[:n], append(s.Links, api.Link{Name: "behind"})[:l]
	return s
}

// behind tells whether what stands in the room behind a state's lists is there yet.
func behind(s api.State) bool {
	for _, n := range s.Nodes {
		if n.Pieces[:len(n.Pieces)+1][len(n.Pieces)].Data != "behind" || n.Xattrs[:len(n.Xattrs)+1][len(n.Xattrs)].Val != "behind" {
			return false
		}
	}
	return s.Nodes[:len(s.Nodes)+1][len(s.Nodes)].Text == "behind" && s.Links[:len(s.Links)+1][len(s.Links)].Name == "behind"
}

// alone tells that an answer is new memory: what is done to it, or to one list of it, changes nothing else.
func alone(t *testing.T, what string, ask func() api.State, args ...api.State) {
	t.Helper()
	var were []api.State
	for _, s := range args {
		were = append(were, facts.Clone(s))
	}
	first, again := ask(), ask()
	want := facts.Clone(again)
	for i, n := range first.Nodes {
		others := facts.Clone(first)
		scribbleNode(n)
		copy(others.Nodes[i].Pieces, n.Pieces)
		copy(others.Nodes[i].Xattrs, n.Xattrs)
		is(t, what+": two of its lists are shared", first, others)
	}
	scribble(first)
	is(t, what+": two answers share lists", again, want)
	for i, s := range args {
		is(t, what+": an argument is changed", s, were[i])
		if !behind(s) {
			t.Errorf("%s: the room behind a list is changed", what)
		}
	}
	for _, s := range args {
		scribble(s)
	}
	is(t, what+": an argument's lists are shared", again, want)
}

// DOC, Memory
func TestMemory(t *testing.T) {
	list := func(n *api.Inode) {
		n.Pieces = []api.Piece{{Index: 1, Data: "a"}, {Index: 4, Data: "b"}}
		n.Xattrs = []api.Xattr{{Name: "a", Val: "b"}, {Name: "c", Val: "d"}}
	}
	one := func() api.State {
		return roomy(api.State{Seen: api.Vector{9, 9}, Nodes: []api.Inode{node(root, list), node(stamp(1, 0), list), node(stamp(2, 0), list)}, Links: []api.Link{link(stamp(1, 0)), link(stamp(2, 0))}})
	}
	other := func() api.State {
		return roomy(api.State{Seen: api.Vector{9, 9}, Nodes: []api.Inode{node(stamp(2, 1), list), node(stamp(1, 0), list), node(root)}, Links: []api.Link{link(stamp(2, 1)), link(stamp(2, 0))}})
	}
	a, b := one(), other()
	alone(t, "States", func() api.State { return join.States(a, b) }, a, b)
	a, b = one(), roomy(api.State{})
	alone(t, "States of one", func() api.State { return join.States(a, b) }, a, b)
	a, b = one(), other()
	alone(t, "Merge", func() api.State { return join.Merge(a, b) }, a, b)
	a, b = one(), roomy(api.State{})
	alone(t, "Merge of one", func() api.State { return join.Merge(b, a) }, b, a)
	a = one()
	alone(t, "Prune of nothing", func() api.State { return join.Prune(a, api.Vector{}) }, a)
	a = one()
	alone(t, "Prune", func() api.State { return join.Prune(a, api.Vector{1}) }, a)
	a = one()
	a.Links[0].Alive = api.Vector{10}
	alone(t, "Prune of some", func() api.State { return join.Prune(a, api.Vector{9, 9}) }, a)
}

// DOC, Ends: long lists.
func TestLong(t *testing.T) {
	const many = 60000
	var a, b, want api.State
	var same api.State
	for i := range many {
		data := strings.Repeat("d", i%3)
		a.Nodes = append(a.Nodes, node(stamp(many-i, 0)))
		b.Links = append(b.Links, link(stamp(many-i, i%2)))
		same.Nodes = append(same.Nodes, node(stamp(1, 1), func(n *api.Inode) { n.Pieces = []api.Piece{{Index: many - i, Data: data}} }))
		want.Nodes, want.Links = append(want.Nodes, node(stamp(i+1, 0))), append(want.Links, link(stamp(i+1, (many-i-1)%2)))
	}
	is(t, "long lists", join.States(a, b), want)
	a.Seen = api.Vector{most}
	is(t, "long lists that were pruned", join.Merge(a, api.State{Seen: a.Seen}), api.State{Seen: a.Seen})
	got := join.States(same, same)
	if len(got.Nodes) != 1 || len(got.Nodes[0].Pieces) != many || got.Nodes[0].Pieces[0].Index != 1 {
		t.Errorf("a long list of one inode")
	}
}
