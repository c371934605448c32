package facts

import (
	"cmp"
	"slices"

	"crannog/api"
	"crannog/octet"
	"crannog/vector"
)

// built is a state that is made of entries, and where its inodes stand in it.
type built struct {
	api.State
	places map[api.Stamp]int
}

// State is the state of entries; an error: it can't be one.
func State(l []api.Entry) (api.State, api.Errno) {
	b := built{places: map[api.Stamp]int{}}
	for _, en := range l {
		// Each part tells where it ends: where the key does is asked below.
		if octet.Read([]byte(en.Key+en.Val), b.take) != api.OK {
			return api.State{}, api.EFORM
		}
	}
	b.order()
	// One state may be read from unlike entries, of which just one row is its own.
	if Check(b.State) != api.OK || !slices.Equal(Entries(b.State), l) {
		return api.State{}, api.EFORM
	}
	return b.State, api.OK
}

// take is the state with an entry that is looked at, its key, then its value.
func (b *built) take(e *octet.Eye) {
	switch e.Num(keyWidth) {
	case seenKey:
		b.Seen = vector.See(e)
	case linkKey:
		b.Links = append(b.Links, seeLink(e))
	case nodeKey:
		n := seeNode(e)
		b.places[n.Id] = len(b.Nodes)
		b.Nodes = append(b.Nodes, n)
	case pieceKey:
		n := b.node(e)
		n.Pieces = append(n.Pieces, seePiece(e))
	case xattrKey:
		n := b.node(e)
		n.Xattrs = append(n.Xattrs, seeXattr(e))
	default:
		e.Fail(api.EFORM)
	}
}

// node is the inode whose Id comes next; its key stands ahead of those of what it has.
func (b *built) node(e *octet.Eye) *api.Inode {
	i, ok := b.places[vector.SeeStamp(e)]
	if !ok {
		e.Fail(api.EFORM)
	}
	return &b.Nodes[i]
}

// order puts xattrs by their names, whose keys stand by their lengths first.
func (b *built) order() {
	for _, n := range b.Nodes {
		slices.SortFunc(n.Xattrs, func(x, y api.Xattr) int { return cmp.Compare(x.Name, y.Name) })
	}
}

func seeLink(e *octet.Eye) api.Link {
	var k api.Link
	k.Id, k.Node, k.At, k.Parent = vector.SeeStamp(e), vector.SeeStamp(e), vector.SeeStamp(e), vector.SeeStamp(e)
	k.Name = e.Text(api.MaxName)
	k.Alive, k.Dead = vector.See(e), vector.See(e)
	return k
}

func seeNode(e *octet.Eye) api.Inode {
	n := api.Inode{Id: vector.SeeStamp(e), Kind: e.Num(kindWidth), Text: e.Text(api.MaxPath)}
	n.Attr = api.Attr{At: vector.SeeStamp(e), Mode: e.Num(modeWidth)}
	n.Attr.Time = uint64(e.Num(halfWidth)) << halfBits
	n.Attr.Time |= uint64(e.Num(halfWidth))
	n.Size = api.Size{At: vector.SeeStamp(e), N: e.Num(sizeWidth)}
	return n
}

func seePiece(e *octet.Eye) api.Piece {
	return api.Piece{Index: e.Num(indexWidth), At: vector.SeeStamp(e), Data: e.Text(api.Chunk)}
}

func seeXattr(e *octet.Eye) api.Xattr {
	x := api.Xattr{Name: e.Text(api.MaxName), At: vector.SeeStamp(e)}
	x.Gone = e.Num(goneWidth) == 1
	x.Val = e.Text(api.MaxXval)
	return x
}
