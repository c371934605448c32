package tree

import (
	"crannog/api"
	"crannog/store"
)

// walk is a way through entries, and those that it has found.
type walk struct {
	s     *store.Store
	past  func(key string) bool // tells that the way ends ahead of a key
	seen  map[int]struct{}
	found []api.Entry
}

// from goes through what stands below a node, from a key on.
func (w *walk) from(n node, key string) api.Errno {
	i := n.from(key)
	if n.level > 0 {
		i = max(n.way(key), 0) // the key may stand below an item that is less
	}
	for ; i < len(n.items) && !w.past(n.items[i].key); i++ {
		if n.level == 0 {
			w.found = append(w.found, api.Entry{Key: n.items[i].key, Val: n.items[i].val})
			continue
		}
		kid, err := n.kid(w.s, i)
		if err != api.OK {
			return err
		}
		if first(w.seen, n.items[i].kid) {
			if err := w.from(kid, key); err != api.OK {
				return err
			}
		}
	}
	return api.OK
}

// first tells whether a block comes for the first time. A tree has no block twice; of what is none there could be more ways than can be gone.
func first(seen map[int]struct{}, id int) bool {
	_, again := seen[id]
	seen[id] = struct{}{}
	return !again
}

// survey is a look at all that stands below a node: whether it is a tree.
type survey struct {
	s    *store.Store
	seen map[int]struct{}
	last string // the key that came last
	many int    // entries so far
	bad  bool
}

// demand notes what no tree has; the look goes on, as blocks that are no nodes are told ahead of it.
func (c *survey) demand(ok bool) { c.bad = c.bad || !ok }

// below looks at what stands below a node. As keys rise from leaf to leaf, and each item has the first one below it, all stand below the next item's.
func (c *survey) below(n node) api.Errno {
	for i, it := range n.items {
		if n.level == 0 {
			c.demand(it.key > c.last)
			c.last = it.key
			c.many++
			continue
		}
		kid, err := n.kid(c.s, i)
		if err != api.OK {
			return err
		}
		c.demand(len(kid.items) >= fewest && kid.items[0].key == it.key)
		if !first(c.seen, it.kid) {
			c.demand(false)
			continue
		}
		if err := c.below(kid); err != api.OK {
			return err
		}
	}
	return api.OK
}
