package query

import (
	"slices"
	"strings"

	"crannog/api"
	"crannog/calls"
	"crannog/facts"
	"crannog/octet"
	"crannog/vector"
)

// Bytes of numbers.
const (
	markWidth = 1 // of what tells whether an xattr comes
	kindWidth = 1
	modeWidth = 2
	halfWidth = 4 // of a half of a time's bits
)

const halfBits = 8 * halfWidth

// Dump is all that can be asked of a volume, as bytes.
func Dump(s api.State) string {
	var b strings.Builder
	b.WriteString(row(inode(s, api.Stamp{})))
	for _, f := range Tree(s) {
		b.WriteString(row(octet.PutText(nil, f.Path), inode(s, f.Node)))
	}
	return b.String()
}

// inode is all that can be asked of one, as bytes; of .lost, which has none, of noughts alone.
func inode(s api.State, id api.Stamp) []byte {
	n, _ := facts.Node(s, id)
	return slices.Concat(
		vector.PutStamp(nil, n.Id),
		octet.Put(nil, n.Kind, kindWidth),
		octet.Put(nil, n.Attr.Mode, modeWidth),
		octet.Put(nil, int(n.Attr.Time>>halfBits), halfWidth),
		octet.Put(nil, int(n.Attr.Time), halfWidth),
		octet.PutText(nil, n.Text),
		octet.PutText(nil, calls.Bytes(n)),
		xattrs(n.Xattrs),
	)
}

// xattrs is those that are there, as bytes, and a mark behind them.
func xattrs(l []api.Xattr) []byte {
	var parts [][]byte
	for _, x := range l {
		if !x.Gone {
			parts = append(parts, octet.Put(nil, 1, markWidth), octet.PutText(nil, x.Name), octet.PutText(nil, x.Val))
		}
	}
	return slices.Concat(append(parts, octet.Put(nil, 0, markWidth))...)
}

// row is parts, one behind the other.
func row(parts ...[]byte) string { return string(slices.Concat(parts...)) }

// Alike tells whether two volumes answer all questions alike.
func Alike(a, b api.State) bool {
	may := facts.Check(a) == api.OK
	if may != (facts.Check(b) == api.OK) {
		return false
	}
	return !may || Dump(a) == Dump(b)
}
