package facts

import (
	"cmp"

	"crannog/api"
	"crannog/instant"
	"crannog/names"
	"crannog/vector"
)

const (
	maxNodes  = api.MaxNodes * api.MaxReps // inodes: each replica may have made all that may show
	maxLinks  = api.MaxLinks * api.MaxReps
	maxXattrs = api.MaxXattrs * api.MaxReps // of an inode
	maxPieces = api.MaxSize / api.Chunk     // of a file
	maxMode   = 0o777
)

// checked is a state that is looked through, and which kinds its inodes are of.
type checked struct {
	api.State
	kinds map[api.Stamp]int
}

// Check tells whether a state may be a volume's.
func Check(s api.State) api.Errno {
	if !vector.Good(s.Seen) || !fits(s) || !stands(s) {
		return api.EFORM
	}
	c := checked{s, map[api.Stamp]int{}}
	for _, n := range c.Nodes {
		c.kinds[n.Id] = n.Kind
	}
	for _, n := range c.Nodes {
		if !c.node(n) {
			return api.EFORM
		}
	}
	for _, l := range c.Links {
		if !c.link(l) {
			return api.EFORM
		}
	}
	if !c.homes() {
		return api.EFORM
	}
	return api.OK
}

// fits tells whether a state has no more than may be, and its root.
func fits(s api.State) bool {
	return len(s.Nodes) >= 1 && len(s.Nodes) <= maxNodes && len(s.Links) <= maxLinks &&
		isRoot(s.Nodes[0].Id) && s.Nodes[0].Kind == api.Dir
}

// stands tells whether inodes and links stand by rising Ids.
func stands(s api.State) bool {
	return rise(s.Nodes, func(n api.Inode) api.Stamp { return n.Id }, vector.Less) &&
		rise(s.Links, func(l api.Link) api.Stamp { return l.Id }, vector.Less)
}

// rise tells whether the items of a list stand by rising ids, each once.
func rise[T, I any](l []T, id func(T) I, less func(a, b I) bool) bool {
	for i := 1; i < len(l); i++ {
		if !less(id(l[i-1]), id(l[i])) {
			return false
		}
	}
	return true
}

// knows tells whether an event is known.
func (c checked) knows(s api.Stamp) bool { return vector.Has(c.Seen, s) }

// node tells whether an inode may be.
func (c checked) node(n api.Inode) bool {
	return (isRoot(n.Id) || c.knows(n.Id)) && c.attr(n) && texted(n) && c.body(n) && c.xattrs(n.Xattrs)
}

// attr tells whether an inode's mode and time may be. The root's may be those that it began with.
func (c checked) attr(n api.Inode) bool {
	a := n.Attr
	return (c.knows(a.At) || isRoot(n.Id) && a.At == n.Id) && a.Mode >= 0 && a.Mode <= maxMode && instant.Good(a.Time)
}

// texted tells whether an inode's text may be: just a symlink has one.
func texted(n api.Inode) bool {
	if n.Kind == api.Sym {
		return len(n.Text) >= 1 && len(n.Text) <= api.MaxPath
	}
	return n.Text == ""
}

// body tells whether an inode is of a kind, and has what this has: of a file bytes.
func (c checked) body(n api.Inode) bool {
	switch n.Kind {
	case api.File:
		return c.knows(n.Size.At) && n.Size.N >= 0 && n.Size.N <= api.MaxSize && c.pieces(n.Pieces)
	case api.Dir, api.Sym:
		return n.Size == api.Size{} && len(n.Pieces) == 0
	}
	return false
}

// pieces tells whether a file's pieces may be.
func (c checked) pieces(l []api.Piece) bool {
	for _, p := range l {
		if p.Index < 0 || p.Index >= maxPieces || len(p.Data) > api.Chunk || !c.knows(p.At) {
			return false
		}
	}
	return rise(l, func(p api.Piece) int { return p.Index }, cmp.Less)
}

// xattrs tells whether an inode's xattrs may be.
func (c checked) xattrs(l []api.Xattr) bool {
	if len(l) > maxXattrs {
		return false
	}
	for _, x := range l {
		if names.Good(x.Name) != api.OK || len(x.Val) > api.MaxXval || x.Gone && x.Val != "" || !c.knows(x.At) {
			return false
		}
	}
	return rise(l, func(x api.Xattr) string { return x.Name }, cmp.Less)
}

// link tells whether a link may be.
func (c checked) link(l api.Link) bool {
	_, leads := c.kinds[l.Node]
	return c.knows(l.Id) && c.knows(l.At) && leads && !isRoot(l.Node) && c.place(l) &&
		vector.Has(l.Alive, l.Id) && c.has(l.Alive) && c.has(l.Dead)
}

// place tells whether a link may be placed as it is. The name of the directory of conflicts is nobody's.
func (c checked) place(l api.Link) bool {
	lost := isRoot(l.Parent) && l.Name == api.Lost
	return c.kinds[l.Parent] == api.Dir && names.Good(l.Name) == api.OK && !lost
}

// has tells whether a vector may be one of what is known.
func (c checked) has(v api.Vector) bool {
	return vector.Good(v) && vector.Within(v, c.Seen)
}

// homes tells whether each directory but the root has one link: it stands in just one other.
func (c checked) homes() bool {
	links := map[api.Stamp]int{}
	for _, l := range c.Links {
		links[l.Node]++
	}
	for _, n := range c.Nodes {
		if n.Kind == api.Dir && !isRoot(n.Id) && links[n.Id] != 1 {
			return false
		}
	}
	return true
}
