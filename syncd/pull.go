package syncd

import (
	"crannog/api"
	"crannog/facts"
	"crannog/fs"
	"crannog/join"
	"crannog/stream"
)

// pull is a snapshot on its way to this replica.
type pull struct {
	base  api.Mark // what its parts lead from; none: from nothing
	mark  api.Mark
	stage *stream.Stage
}

// base is a snapshot that this replica and who gave it both have.
type base struct {
	mark api.Mark
	tree int // it is held
}

// question asks another replica for what it has, or for what is missing of it.
func (s *Sync) question(w with) api.Msg {
	_, seen := s.kept(w.vol)
	m := api.Msg{Kind: api.MAsk, Seen: seen, Base: s.bases[w].mark}
	if p, ok := s.pulls[w]; ok {
		m.Base, m.Mark, m.Index = p.base, p.mark, p.stage.Missing()
	}
	return s.to(w, m)
}

// begin is the pull of which a part comes; one begins with a part that comes to none.
func (s *Sync) begin(w with, m api.Msg) (pull, api.Errno) {
	p, ok := s.pulls[w]
	if !ok {
		had := s.bases[w].mark
		if m.Mark == had || m.Base != (api.Mark{}) && m.Base != had {
			return pull{}, api.ESTALE
		}
		stage, _ := stream.New(m.Total) // of a message that may be there is one
		p = pull{base: m.Base, mark: m.Mark, stage: stage}
		s.pulls[w] = p
	}
	if m.Mark != p.mark || m.Base != p.base {
		return pull{}, api.ESTALE
	}
	return p, api.OK
}

// take takes a part: the last one that was missing ends its pull.
func (s *Sync) take(w with, m api.Msg) ([]api.Msg, api.Errno) {
	p, err := s.begin(w, m)
	if err != api.OK {
		return nil, err
	}
	fresh, err := p.stage.Add(m.Index, m.Data)
	many, total := p.stage.Has()
	switch {
	case err != api.OK || total != m.Total:
		delete(s.pulls, w)
		return nil, api.EFORM
	case many == total:
		delete(s.pulls, w)
		return nil, s.finish(w, p)
	case fresh && p.stage.Whole(m.Index):
		return []api.Msg{s.question(w)}, api.OK
	}
	return nil, api.OK
}

// finish merges a snapshot that has come as a whole; it is the base from now on.
func (s *Sync) finish(w with, p pull) api.Errno {
	changes, err := p.stage.Changes()
	if err != api.OK {
		return api.EFORM
	}
	from := 0
	if p.base != (api.Mark{}) {
		from = s.bases[w].tree
	}
	tree, err := s.fs.Grow(from, changes)
	if err != api.OK {
		return err
	}
	seen, err := s.merge(w.vol, tree)
	if err != api.OK {
		s.fs.Drop(tree)
		return err
	}
	s.fs.Drop(s.bases[w].tree) // the elder one's; of 0, without one, nothing
	s.bases[w] = base{mark: p.mark, tree: tree}
	s.hear(w, seen)
	return api.OK
}

// merge has a volume be what it was and a tree's state as one, and kept so; what that state knows.
func (s *Sync) merge(vol, tree int) (api.Vector, api.Errno) {
	others, err := s.fs.Load(tree)
	if err != api.OK {
		return api.Vector{}, err
	}
	mine, err := s.fs.State(fs.Main(vol))
	if err != api.OK {
		return api.Vector{}, err
	}
	both := join.Merge(mine, others)
	if err := facts.Check(both); err != api.OK {
		return api.Vector{}, err
	}
	if facts.Same(both, mine) {
		return others.Seen, api.OK
	}
	if err := s.fs.Put(fs.Main(vol), both); err != api.OK {
		return api.Vector{}, err
	}
	return others.Seen, s.fs.Commit()
}
