package archive

import (
	"strings"

	"crannog/api"
	"crannog/crc"
	"crannog/instant"
	"crannog/octet"
)

// What bytes may have.
const (
	maxItems = 1000
	maxPath  = 8192 // from the archive's directory on: longer than a path that can be asked for
	maxMode  = 0o777
)

// Bytes of numbers.
const (
	manyWidth  = 2
	kindWidth  = 1
	sameWidth  = 2
	modeWidth  = 2
	halfWidth  = 4 // of a half of a time's bits
	namesWidth = 1 // of how many xattrs there are
)

const halfBits = 8 * halfWidth

// Put is items as bytes, sealed.
func Put(l []api.Item) string {
	var b strings.Builder
	number := func(n, width int) { b.Write(octet.Put(nil, n, width)) }
	text := func(s string) { b.Write(octet.PutText(nil, s)) }
	number(len(l), manyWidth)
	for _, it := range l {
		text(it.Path)
		number(it.Kind, kindWidth)
		number(it.Same+1, sameWidth) // no item ahead: 0
		number(it.Mode, modeWidth)
		number(int(it.Time>>halfBits), halfWidth)
		number(int(it.Time), halfWidth)
		text(it.Body)
		number(len(it.Xattrs), namesWidth)
		for _, x := range it.Xattrs {
			text(x.Name)
			text(x.Val)
		}
	}
	return crc.Seal(b.String())
}

// Get is the items of bytes.
func Get(s string) ([]api.Item, api.Errno) {
	open, ok := crc.Open(s)
	if !ok {
		return nil, api.EFORM
	}
	var l []api.Item
	err := octet.Read([]byte(open), func(e *octet.Eye) {
		many := e.Num(manyWidth)
		demand(e, many <= maxItems)
		for range many {
			it := see(e)
			demand(e, may(it, l))
			l = append(l, it)
		}
	})
	if err != api.OK {
		return nil, api.EFORM
	}
	return l, api.OK
}

// demand ends a looking, unless what was seen can be.
func demand(e *octet.Eye, ok bool) {
	if !ok {
		e.Fail(api.EFORM)
	}
}

// see is the next item of bytes that are looked at.
func see(e *octet.Eye) api.Item {
	it := api.Item{Path: e.Text(maxPath), Kind: e.Num(kindWidth), Same: e.Num(sameWidth) - 1, Mode: e.Num(modeWidth)}
	it.Time = uint64(e.Num(halfWidth)) << halfBits
	it.Time |= uint64(e.Num(halfWidth))
	it.Body = e.Text(api.MaxSize)
	for range e.Num(namesWidth) {
		it.Xattrs = append(it.Xattrs, api.Xattr{Name: e.Text(api.MaxName), Val: e.Text(api.MaxXval)})
	}
	return it
}

// may tells whether an item may stand behind others.
func may(it api.Item, ahead []api.Item) bool {
	if it.Kind < api.File || it.Kind > api.Sym || it.Mode > maxMode {
		return false
	}
	if it.Same != none {
		return it.Same < len(ahead) && links(it, ahead[it.Same])
	}
	return instant.Good(it.Time) && bodied(it)
}

// links tells whether an item may be a further link of the inode of another one: all of that stands there.
func links(it, first api.Item) bool {
	return first.Same == none && it.Kind == first.Kind && it.Kind != api.Dir &&
		it.Mode == 0 && it.Time == 0 && it.Body == "" && len(it.Xattrs) == 0
}

// bodied tells whether an item has the bytes, or the text, that its kind may have.
func bodied(it api.Item) bool {
	switch it.Kind {
	case api.Dir:
		return it.Body == ""
	case api.Sym:
		return len(it.Body) >= 1 && len(it.Body) <= api.MaxPath
	}
	return true
}
