package tree

import (
	"crannog/api"
	"crannog/store"
)

// added is what comes in place of a node once an entry is put below it: one node, or two, that are not written yet. All below them is.
func (n node) added(s *store.Store, entry item) ([]node, api.Errno) {
	if n.level == 0 {
		i, ok := n.find(entry.key)
		to := i
		if ok {
			to++
		}
		return n.with(i, to, entry).parts(), api.OK
	}
	i := max(n.way(entry.key), 0) // a key below all goes to the first kid
	kid, err := n.kid(s, i)
	if err != api.OK {
		return nil, err
	}
	kids, err := kid.added(s, entry)
	if err != api.OK {
		return nil, err
	}
	items, err := written(s, kids)
	if err != api.OK {
		return nil, err
	}
	return n.with(i, i+1, items...).parts(), api.OK
}

// removed is what comes in place of a node once a key is taken from below it: perhaps with too few items, and not written yet. False: the key is not there.
func (n node) removed(s *store.Store, key string) (node, bool, api.Errno) {
	if n.level == 0 {
		i, ok := n.find(key)
		if !ok {
			return node{}, false, api.OK
		}
		return n.with(i, i+1), true, api.OK
	}
	i := n.way(key)
	if i < 0 {
		return node{}, false, api.OK
	}
	kid, err := n.kid(s, i)
	if err != api.OK {
		return node{}, false, err
	}
	kid, ok, err := kid.removed(s, key)
	if err != api.OK || !ok {
		return node{}, false, err
	}
	n, err = n.mended(s, i, kid)
	return n, err == api.OK, err
}

// mended is a node that has another kid in place of one. If that has too few items, the one beside it shares its own with it.
func (n node) mended(s *store.Store, i int, kid node) (node, api.Errno) {
	from, to, kids := i, i+1, []node{kid}
	if len(kid.items) < fewest && len(n.items) > 1 {
		from = max(i-1, 0)
		to = from + 2
		whole, err := n.joined(s, from, i, kid)
		if err != api.OK {
			return node{}, err
		}
		kids = whole.parts()
	}
	if len(kids[0].items) == 0 { // an only kid, which no tree has
		kids = nil
	}
	items, err := written(s, kids)
	if err != api.OK {
		return node{}, err
	}
	return n.with(from, to, items...), api.OK
}

// joined is two kids as one, the one at an item and the one behind it; another one is in place of the one at i.
func (n node) joined(s *store.Store, at, i int, kid node) (node, api.Errno) {
	if i == at {
		next, err := n.kid(s, at+1)
		return kid.with(len(kid.items), len(kid.items), next.items...), err
	}
	before, err := n.kid(s, at)
	return kid.with(0, 0, before.items...), err
}
