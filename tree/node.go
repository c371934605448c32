package tree

import (
	"slices"
	"sort"

	"crannog/api"
	"crannog/octet"
	"crannog/store"
)

const (
	maxLevel   = 20          // of a node
	levelWidth = 1           // bytes of a level
	manyWidth  = 1           // bytes of how many items there are
	fewest     = api.Fan / 2 // items of a node that is no root
	fewestTop  = 2           // items of a root above the leaves
)

// item is an entry on a leaf; above it the least key below a kid, and the kid.
type item struct {
	key string
	val string
	kid int
}

// node is what a block of a tree holds. Its items are never written over: nodes share them.
type node struct {
	level int
	items []item
}

// nodeOf is the node that a block is; false: it is none.
func nodeOf(b api.Block) (node, bool) {
	var n node
	err := octet.Read([]byte(b.Data), func(e *octet.Eye) {
		n.level = e.Num(levelWidth)
		many := e.Num(manyWidth)
		demand(e, n.level <= maxLevel && many >= 1 && many <= api.Fan)
		demand(e, len(b.Kids) == n.kidsOf(many))
		last := "" // stands below all keys
		for i := range many {
			it := item{key: e.Text(api.MaxKey)}
			demand(e, it.key > last)
			last = it.key
			if n.level == 0 {
				it.val = e.Text(api.MaxVal)
			} else {
				it.kid = b.Kids[i]
			}
			n.items = append(n.items, it)
		}
	})
	if err != api.OK {
		return node{}, false
	}
	return n, true
}

// demand ends a looking, unless what was seen can be.
func demand(e *octet.Eye, ok bool) {
	if !ok {
		e.Fail(api.EFORM)
	}
}

// kidsOf is how many blocks a node names that has so many items.
func (n node) kidsOf(many int) int {
	if n.level == 0 {
		return 0
	}
	return many
}

// block is the block that a node is.
func (n node) block() api.Block {
	var kids []int
	data := octet.Put(nil, n.level, levelWidth)
	data = octet.Put(data, len(n.items), manyWidth)
	for _, it := range n.items {
		data = octet.PutText(data, it.key)
		if n.level == 0 {
			data = octet.PutText(data, it.val)
		} else {
			kids = append(kids, it.kid)
		}
	}
	return api.Block{Kids: kids, Data: string(data)}
}

// load is the node that lies in a block.
func load(s *store.Store, id int) (node, api.Errno) {
	b, err := s.Get(id)
	if err != api.OK {
		return node{}, err
	}
	n, ok := nodeOf(b)
	if !ok {
		return node{}, api.EIO
	}
	return n, api.OK
}

// kid is the node that an item of a node leads to. As it stands lower, every way down ends.
func (n node) kid(s *store.Store, i int) (node, api.Errno) {
	k, err := load(s, n.items[i].kid)
	if err != api.OK {
		return node{}, err
	}
	if k.level != n.level-1 {
		return node{}, api.EIO
	}
	return k, api.OK
}

// write is the block in which a node lies from now on.
func (n node) write(s *store.Store) (int, api.Errno) {
	b := n.block()
	return s.Put(b.Kids, b.Data)
}

// written is the items that lead to nodes, which have been written then.
func written(s *store.Store, nodes []node) ([]item, api.Errno) {
	var items []item
	for _, n := range nodes {
		id, err := n.write(s)
		if err != api.OK {
			return nil, err
		}
		items = append(items, item{key: n.items[0].key, kid: id})
	}
	return items, api.OK
}

// place is the first item of a node of whose key something holds that holds of all greater ones, too.
func (n node) place(holds func(key string) bool) int {
	return sort.Search(len(n.items), func(i int) bool { return holds(n.items[i].key) })
}

// from is the first item whose key is not below one.
func (n node) from(key string) int {
	return n.place(func(k string) bool { return k >= key })
}

// way is the item below which a key stands, if it is there; -1: below none.
func (n node) way(key string) int {
	return n.place(func(k string) bool { return k > key }) - 1
}

// find is where a key stands, or would stand on a leaf; false: it is not there.
func (n node) find(key string) (int, bool) {
	i := n.from(key)
	return i, i < len(n.items) && n.items[i].key == key
}

// with is a node that has other items in place of those from one on and below another one.
func (n node) with(from, to int, in ...item) node {
	return node{n.level, slices.Concat(n.items[:from], in, n.items[to:])}
}

// parts is a node as those that can be: as two, if it has too many items.
func (n node) parts() []node {
	if len(n.items) <= api.Fan {
		return []node{n}
	}
	half := len(n.items) / 2
	return []node{{n.level, n.items[:half]}, {n.level, n.items[half:]}}
}
