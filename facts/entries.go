package facts

import (
	"cmp"
	"slices"

	"crannog/api"
	"crannog/octet"
	"crannog/vector"
)

// What keys begin with.
const (
	seenKey  = 'v'
	linkKey  = 'l'
	nodeKey  = 'n'
	pieceKey = 'p'
	xattrKey = 'x'
)

// Bytes of numbers.
const (
	keyWidth   = 1 // of what a key begins with
	indexWidth = 1
	kindWidth  = 1
	modeWidth  = 2
	halfWidth  = 4 // of a half of a time's bits
	sizeWidth  = 2
	goneWidth  = 1
)

const halfBits = 8 * halfWidth

// Entries is a state as entries, by rising keys.
func Entries(s api.State) []api.Entry {
	var l []api.Entry
	add := func(key, val string) { l = append(l, api.Entry{Key: key, Val: val}) }
	add(row(number(seenKey, keyWidth)), row(vector.Put(nil, s.Seen)))
	for _, k := range s.Links {
		add(keyOf(linkKey, k.Id), linkVal(k))
	}
	for _, n := range s.Nodes {
		add(keyOf(nodeKey, n.Id), nodeVal(n))
		for _, p := range n.Pieces {
			add(keyOf(pieceKey, n.Id, number(p.Index, indexWidth)...), row(stamp(p.At), text(p.Data)))
		}
		for _, x := range n.Xattrs {
			add(keyOf(xattrKey, n.Id, text(x.Name)...), xattrVal(x))
		}
	}
	slices.SortStableFunc(l, func(a, b api.Entry) int { return cmp.Compare(a.Key, b.Key) })
	return l
}

// keyOf is the key of a link, of an inode, or of what an inode has.
func keyOf(kind int, id api.Stamp, more ...byte) string {
	return row(number(kind, keyWidth), stamp(id), more)
}

func linkVal(k api.Link) string {
	place := row(stamp(k.At), stamp(k.Parent), text(k.Name))
	return row(stamp(k.Node)) + place + row(vector.Put(nil, k.Alive), vector.Put(nil, k.Dead))
}

func nodeVal(n api.Inode) string {
	high, low := int(n.Attr.Time>>halfBits), int(n.Attr.Time)
	attr := row(stamp(n.Attr.At), number(n.Attr.Mode, modeWidth), number(high, halfWidth), number(low, halfWidth))
	return row(number(n.Kind, kindWidth), text(n.Text)) + attr + row(stamp(n.Size.At), number(n.Size.N, sizeWidth))
}

func xattrVal(x api.Xattr) string {
	gone := 0
	if x.Gone {
		gone = 1
	}
	return row(stamp(x.At), number(gone, goneWidth), text(x.Val))
}

// row is parts, one behind the other.
func row(parts ...[]byte) string { return string(slices.Concat(parts...)) }

func number(n, width int) []byte { return octet.Put(nil, n, width) }

func text(s string) []byte { return octet.PutText(nil, s) }

func stamp(s api.Stamp) []byte { return vector.PutStamp(nil, s) }
