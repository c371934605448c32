package syncd

import (
	"slices"

	"crannog/api"
	"crannog/stream"
	"crannog/vector"
)

// given is a snapshot that another replica was given: it is pulled as what leads to its tree from that of its base.
type given struct {
	base api.Mark // none: all of it is given
	from int      // the tree of that; 0 without one
	mark api.Mark
	tree int
	seen api.Vector // what is known in it
}

// give answers who has pulled nothing yet of what is kept: which snapshot that is, as its parts come.
func (s *Sync) give(w with, m api.Msg) ([]api.Msg, api.Errno) {
	tree, seen := s.kept(w.vol)
	if vector.Within(seen, m.Seen) {
		return []api.Msg{s.to(w, api.Msg{Kind: api.MSame, Seen: seen})}, api.OK
	}
	next := given{tree: tree, seen: seen}
	if b, ok := s.find(w, func(g given) bool { return g.mark == m.Base }); ok {
		next.base, next.from = b.mark, b.tree
	}
	again := func(g given) bool { return g.base == next.base && g.tree == next.tree }
	if g, ok := s.find(w, again); ok {
		return s.parts(w, g, 0)
	}
	next.mark = api.Mark{Boot: s.boot, N: s.gave + 1}
	l, err := s.parts(w, next, 0)
	if err != api.OK {
		return nil, err // nobody was given anything
	}
	s.gave++
	s.have(w, next)
	return l, api.OK
}

// giveOn answers who pulls a snapshot: the parts from one on.
func (s *Sync) giveOn(w with, m api.Msg) ([]api.Msg, api.Errno) {
	g, ok := s.find(w, func(g given) bool { return g.mark == m.Mark && g.base == m.Base })
	if !ok {
		_, seen := s.kept(w.vol)
		return []api.Msg{s.to(w, api.Msg{Kind: api.MGone, Mark: m.Mark, Seen: seen})}, api.OK
	}
	return s.parts(w, g, m.Index)
}

// find is a snapshot that was given, and is there yet, of which something holds.
func (s *Sync) find(w with, holds func(g given) bool) (given, bool) {
	l := s.given[w]
	i := slices.IndexFunc(l, holds)
	if i < 0 {
		return given{}, false
	}
	return l[i], true
}

// have has a snapshot be there that is given: behind it its base stays, and no other one.
func (s *Sync) have(w with, next given) {
	l := []given{next}
	if b, ok := s.find(w, func(g given) bool { return g.mark == next.base }); ok {
		l = append(l, b)
	}
	// Held ahead of the others' going: they may have the same trees.
	for _, g := range l {
		s.hold(g)
	}
	for _, g := range s.given[w] {
		s.drop(g)
	}
	s.given[w] = l
}

// hold has a snapshot's trees stay; drop lets them go. (Of none, 0, there is nothing to hold.)
func (s *Sync) hold(g given) {
	s.fs.Hold(g.from)
	s.fs.Hold(g.tree)
}

func (s *Sync) drop(g given) {
	s.fs.Drop(g.from)
	s.fs.Drop(g.tree)
}

// parts is those of a snapshot that are sent at once, from one on.
func (s *Sync) parts(w with, g given, from int) ([]api.Msg, api.Errno) {
	changes, err := s.fs.Diff(g.from, g.tree)
	if err != api.OK {
		return nil, err
	}
	parts := stream.Cut(changes)
	var l []api.Msg
	for _, i := range stream.Window(from, len(parts)) {
		l = append(l, s.to(w, api.Msg{
			Kind: api.MPart, Seen: g.seen, Base: g.base, Mark: g.mark,
			Index: i, Total: len(parts), Data: parts[i],
		}))
	}
	return l, api.OK
}
