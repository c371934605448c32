package join

import (
	"cmp"

	"crannog/api"
	"crannog/vector"
)

// What tells one item of a list from another one.

func nodeId(n api.Inode) api.Stamp { return n.Id }

func linkId(l api.Link) api.Stamp { return l.Id }

func nodeIds(a, b api.Inode) int { return stamps(a.Id, b.Id) }

func linkIds(a, b api.Link) int { return stamps(a.Id, b.Id) }

func indices(a, b api.Piece) int { return cmp.Compare(a.Index, b.Index) }

func xattrNames(a, b api.Xattr) int { return cmp.Compare(a.Name, b.Name) }

// How the writings of a register stand: by their events, alike ones by what they say.

func attrs(a, b api.Attr) int {
	return cmp.Or(stamps(a.At, b.At), cmp.Compare(a.Mode, b.Mode), cmp.Compare(a.Time, b.Time))
}

func sizes(a, b api.Size) int {
	return cmp.Or(stamps(a.At, b.At), cmp.Compare(a.N, b.N))
}

func pieceOrder(a, b api.Piece) int {
	return cmp.Or(stamps(a.At, b.At), cmp.Compare(a.Data, b.Data))
}

func xattrOrder(a, b api.Xattr) int {
	return cmp.Or(stamps(a.At, b.At), gone(a.Gone, b.Gone), cmp.Compare(a.Val, b.Val))
}

func places(a, b api.Link) int {
	return cmp.Or(stamps(a.At, b.At), stamps(a.Parent, b.Parent), cmp.Compare(a.Name, b.Name))
}

// stamps is how two stamps stand.
func stamps(a, b api.Stamp) int {
	switch {
	case vector.Less(a, b):
		return -1
	case vector.Less(b, a):
		return 1
	}
	return 0
}

// gone is how an xattr that is there stands to one that is gone.
func gone(a, b bool) int {
	switch {
	case a == b:
		return 0
	case b:
		return -1
	}
	return 1
}
