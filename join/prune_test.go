package join_test

import (
	"math"
	"slices"
	"testing"

	"crannog/api"
	"crannog/facts"
	"crannog/join"
)

// Ids of what grown has.
var (
	dirA  = stamp(1, 0)
	dirB  = stamp(2, 0)
	fileF = stamp(3, 1)
	fileG = stamp(4, 1)
)

// placed is a link that stands where its event placed it.
func placed(id, node, parent api.Stamp, name string) api.Link {
	l := api.Link{Id: id, Node: node, At: id, Parent: parent, Name: name}
	l.Alive[id.Who] = id.Time
	return l
}

// grown is /a/b/f and /a/g, all of which 2 unlinked, who knew all.
func grown() api.State {
	s := facts.Empty()
	s.Seen = api.Vector{2, 4, 9}
	for _, l := range []api.Link{placed(dirA, dirA, root, "a"), placed(dirB, dirB, dirA, "b"), placed(fileF, fileF, dirB, "f"), placed(fileG, fileG, dirA, "g")} {
		n := api.Inode{Id: l.Node, Kind: api.Dir, Attr: api.Attr{At: l.Id, Time: 1 << 63}}
		if l.Node.Who == 1 {
			n.Kind, n.Size = api.File, api.Size{At: l.Id, N: 3}
			n.Pieces = []api.Piece{{At: l.Id, Data: "abc"}}
		}
		l.Dead = api.Vector{2, 4, 5}
		s.Nodes, s.Links = append(s.Nodes, n), append(s.Links, l)
	}
	return s
}

// at is a link of grown.
func at(s *api.State, id api.Stamp) *api.Link {
	return &s.Links[slices.IndexFunc(s.Links, func(l api.Link) bool { return l.Id == id })]
}

// left is a state with just those links, and just the inodes that they have, and the root.
func left(s api.State, ids ...api.Stamp) api.State {
	s = facts.Clone(s)
	s.Links = slices.DeleteFunc(s.Links, func(l api.Link) bool { return !slices.Contains(ids, l.Id) })
	s.Nodes = slices.DeleteFunc(s.Nodes, func(n api.Inode) bool {
		return n.Id != root && !slices.ContainsFunc(s.Links, func(l api.Link) bool { return l.Node == n.Id })
	})
	return s
}

// P11.3: what each link, and each inode, stays for.
func TestPrune(t *testing.T) {
	all, known := []api.Stamp{dirA, dirB, fileF, fileG}, api.Vector{2, 4, 5}
	for _, c := range []struct {
		what   string
		stable api.Vector
		do     func(s *api.State)
		stays  []api.Stamp
	}{
		{"all know all", known, nil, nil},
		{"they know more", api.Vector{most, most, most, most}, nil, nil},
		{"the last unlinking is not known", api.Vector{2, 4, 4}, nil, all},
		{"nothing is known", api.Vector{}, nil, all},
		{"one is alive", known, func(s *api.State) { at(s, fileG).Alive[0] = 9 }, []api.Stamp{dirA, fileG}},
		{"one below is alive", known, func(s *api.State) { at(s, fileF).Alive[1] = 5 }, []api.Stamp{dirA, dirB, fileF}},
		{"a directory is alive", known, func(s *api.State) { at(s, dirB).Alive[3] = 1 }, []api.Stamp{dirA, dirB}},
		{"the uppermost one is alive", known, func(s *api.State) { at(s, dirA).Alive[2] = 6 }, []api.Stamp{dirA}},
		{"what was done through one is not known", known, func(s *api.State) { at(s, fileG).Alive[2], at(s, fileG).Dead[2] = 6, 6 }, []api.Stamp{dirA, fileG}},
		{"what was done through one is known here, not by all", api.Vector{2, 4, 5}, func(s *api.State) { at(s, dirB).Alive[2], at(s, dirB).Dead[2] = 6, 7 }, []api.Stamp{dirA, dirB}},
		{"one's unlinking is not known", known, func(s *api.State) { at(s, fileF).Dead[2] = 6 }, []api.Stamp{dirA, dirB, fileF}},
		{"not even here", api.Vector{2, 4, 20}, func(s *api.State) { at(s, fileF).Dead[2] = 10 }, []api.Stamp{dirA, dirB, fileF}},
		{"at last here", api.Vector{2, 4, 20}, func(s *api.State) { at(s, fileF).Dead[2] = 9 }, nil},
		{"one's unlinking is known by too few", api.Vector{2, 4, 5}, func(s *api.State) { at(s, fileG).Dead[7] = 1; s.Seen[7] = 1 }, []api.Stamp{dirA, fileG}},
		{"an unlinking of the first replica is not known", api.Vector{1, 4, 5}, nil, all},
		{"one of another replica is not known", api.Vector{2, 3, 5}, nil, all},
		{"one was moved, as is known", known, func(s *api.State) { at(s, fileG).At = stamp(5, 2) }, nil},
		{"one was moved, as is not known", known, func(s *api.State) { at(s, fileG).At = stamp(6, 2) }, all},
		{"one was moved, as is not known here", api.Vector{2, 4, 20}, func(s *api.State) { at(s, fileG).At = stamp(10, 2) }, all},
		{"one that is alive was moved, as is not known", known, func(s *api.State) { at(s, dirA).At, at(s, dirA).Alive[2] = stamp(6, 2), 6 }, all},
		{"one was moved by none", known, func(s *api.State) { at(s, fileG).At = root }, all},
		{"one was moved by no event", api.Vector{math.MaxInt, math.MaxInt, math.MaxInt}, func(s *api.State) { at(s, fileG).At = stamp(0, 1) }, all},
		{"one was made by an event that is not known", known, func(s *api.State) {
			*at(s, fileG) = api.Link{Id: stamp(6, 2), At: stamp(6, 2), Node: fileG, Parent: dirA}
		}, []api.Stamp{dirA, stamp(6, 2)}},
		{"one was made by none", known, func(s *api.State) { *at(s, fileG) = api.Link{Node: fileG, Parent: dirA} }, []api.Stamp{dirA, root}},
	} {
		s := grown()
		if c.do != nil {
			c.do(&s)
		}
		was := facts.Clone(s)
		is(t, c.what, join.Prune(s, c.stable), left(s, c.stays...))
		is(t, c.what+": it is changed", s, was)
	}
}

// P11.3: each inode by itself. One that is not so known stays, linked or not, and whatever becomes of links.
func TestPruneNodes(t *testing.T) {
	full := api.Vector{most, most, most, most, most, most, most, most}
	s := api.State{Seen: api.Vector{5, 9}}
	for _, id := range []api.Stamp{stamp(-1, 0), root, stamp(0, 1), stamp(3, 0), stamp(5, 0), stamp(6, 0), stamp(7, 1), stamp(8, 1), stamp(most+1, 0), stamp(1, 8)} {
		s.Nodes = append(s.Nodes, node(id))
	}
	want := func(gone ...api.Stamp) api.State {
		w := facts.Clone(s)
		w.Nodes = slices.DeleteFunc(w.Nodes, func(n api.Inode) bool { return slices.Contains(gone, n.Id) })
		return w
	}
	is(t, "nothing is known by all", join.Prune(s, api.Vector{}), want())
	is(t, "all know more", join.Prune(s, full), want(stamp(3, 0), stamp(5, 0), stamp(7, 1), stamp(8, 1)))
	is(t, "all know some", join.Prune(s, api.Vector{3, 7}), want(stamp(3, 0), stamp(7, 1)))
	is(t, "all know less", join.Prune(s, api.Vector{2, 6}), want())
	s.Links = []api.Link{{Id: stamp(1, 0), Node: stamp(5, 0), At: stamp(1, 0), Alive: api.Vector{1}}}
	is(t, "one is linked", join.Prune(s, full), want(stamp(3, 0), stamp(7, 1), stamp(8, 1)))
	s.Links[0].At = stamp(6, 0)
	is(t, "all links stay", join.Prune(s, full), want(stamp(3, 0), stamp(7, 1), stamp(8, 1)))
	s.Links[0].At, s.Links[0].Dead = stamp(1, 0), api.Vector{1}
	gone := want(stamp(3, 0), stamp(5, 0), stamp(7, 1), stamp(8, 1))
	gone.Links = nil
	is(t, "none is linked any more", join.Prune(s, full), gone)
}

// P11.3: s as it is, but for what goes: lists keep their order, and what stands there twice.
func TestPruneLoose(t *testing.T) {
	s := grown()
	slices.Reverse(s.Nodes)
	slices.Reverse(s.Links)
	s.Nodes, s.Links = append(s.Nodes, s.Nodes[2]), append(s.Links, s.Links[2])
	s.Nodes[1].Pieces = []api.Piece{{Index: 4}, {Index: 1}, {Index: 4}}
	at(&s, fileF).Alive[6] = 1
	is(t, "loose", join.Prune(s, api.Vector{2, 4, 5}), left(s, dirA, dirB, fileF))
	is(t, "all stays", join.Prune(s, api.Vector{}), s)
	is(t, "nothing", join.Prune(api.State{}, api.Vector{1}), api.State{})
	s.Seen = api.Vector{-1, math.MinInt, math.MaxInt}
	is(t, "a Seen that is none", join.Prune(s, api.Vector{2, 4, 5}), s)
}

// P11.3: all links of what is a Parent stay, and each way up ends, round or not.
func TestPruneRounds(t *testing.T) {
	s := grown()
	at(&s, dirA).Parent = dirB
	is(t, "a round that is dead", join.Prune(s, api.Vector{2, 4, 5}), left(s))
	at(&s, dirA).Alive[5] = 1
	is(t, "a round that is alive", join.Prune(s, api.Vector{2, 4, 5}), left(s, dirA, dirB))
	at(&s, dirA).Parent = dirA
	is(t, "one in itself", join.Prune(s, api.Vector{2, 4, 5}), left(s, dirA))
	s = grown()
	more := placed(stamp(2, 1), dirB, root, "more")
	more.Dead = api.Vector{2, 4, 5}
	s.Links = slices.Insert(s.Links, 1, more)
	is(t, "two links of a directory that are dead", join.Prune(s, api.Vector{2, 4, 5}), left(s))
	at(&s, fileF).Alive[5] = 1
	is(t, "two links of a directory", join.Prune(s, api.Vector{2, 4, 5}), left(s, dirA, dirB, stamp(2, 1), fileF))
}

// P11.6: pruned, it is pruned for whoever has no more.
func TestPrunedStays(t *testing.T) {
	s := grown()
	at(&s, fileG).Alive[0] = 9
	s.Seen[0] = 9
	p := join.Prune(s, api.Vector{9, 9, 9})
	is(t, "pruned", p, left(s, dirA, fileG))
	old := grown()
	old.Seen = api.Vector{2, 4}
	for i := range old.Links {
		old.Links[i].Dead = api.Vector{}
	}
	for _, other := range []api.State{s, p, grown(), old, facts.Empty()} {
		is(t, "merged", join.Merge(other, p), p)
		is(t, "merged, the other way", join.Merge(p, other), p)
	}
	is(t, "pruned once more", join.Prune(p, api.Vector{9, 9, 9}), p)
}

// DOC, Ends: long lists, deep ones.
func TestPruneLong(t *testing.T) {
	const many = 60000
	deep, wide := api.State{Seen: api.Vector{many, many}}, api.State{Seen: api.Vector{many, many}}
	for i := range many {
		l := placed(stamp(i+1, 0), stamp(i+1, 0), stamp(i, 0), "n")
		l.Dead = api.Vector{many, many}
		deep.Links, deep.Nodes = append(deep.Links, l), append(deep.Nodes, node(l.Node))
		l.Parent = stamp(1, 1)
		if i%2 == 0 {
			l.Node = stamp(1, 1)
		}
		l.Alive[7] = 1
		wide.Links = append(wide.Links, l)
	}
	is(t, "deep and dead", join.Prune(deep, deep.Seen), api.State{Seen: deep.Seen})
	deep.Links[many-1].Alive[7] = 1
	is(t, "deep and alive", join.Prune(deep, deep.Seen), deep)
	is(t, "wide", join.Prune(wide, wide.Seen), wide)
}
