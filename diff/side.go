package diff

import (
	"crannog/api"
	"crannog/store"
	"crannog/tree"
)

// side is a tree that is looked through from above, level by level.
type side struct {
	s       *store.Store
	level   int   // of the blocks; -1: there are none
	ids     []int // blocks that are to be opened
	entries []api.Entry
	opened  int
}

// sideOf is a tree ahead of the looking.
func sideOf(s *store.Store, root int) (*side, api.Errno) {
	if root == 0 {
		return &side{s: s, level: -1}, api.OK
	}
	_, level, err := tree.Top(s, root)
	if err != api.OK {
		return nil, err
	}
	return &side{s: s, level: level, ids: []int{root}}, api.OK
}

// at is the blocks of a level that are to be opened.
func (x *side) at(level int) []int {
	if x.level != level {
		return nil
	}
	return x.ids
}

// down goes on to the level below one, past the blocks that another side has, too.
func (x *side) down(level int, shared []int) api.Errno {
	if x.level != level {
		return api.OK // its root stands lower
	}
	ids := x.ids
	x.ids, x.level = nil, level-1
	past := map[int]struct{}{}
	for _, id := range shared {
		past[id] = struct{}{}
	}
	for _, id := range ids {
		if _, ok := past[id]; ok {
			continue
		}
		// A tree has no block twice; of what is none there could be more ways than can be gone.
		past[id] = struct{}{}
		if err := x.open(id, level); err != api.OK {
			return err
		}
	}
	return api.OK
}

// open opens a block of a level.
func (x *side) open(id, level int) api.Errno {
	entries, kids, err := tree.Open(x.s, id)
	if err != api.OK {
		return err
	}
	if (level == 0) != (len(kids) == 0) {
		return api.EIO // it does not stand where the one above it has it
	}
	x.opened++
	x.entries = append(x.entries, entries...)
	for _, kid := range kids {
		x.ids = append(x.ids, kid.Id)
	}
	return api.OK
}
