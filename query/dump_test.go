package query_test

import (
	"strings"
	"testing"

	"crannog/api"
	"crannog/facts"
	"crannog/query"
)

// P14.4: each byte.
func TestDump(t *testing.T) {
	v := facts.Empty()
	v.Seen = seen
	zero := "\x80\x00\x00\x00\x00\x00\x00\x00"
	empty := strings.Repeat("\x00", 7) + "\x02\x01\xed" + zero + "\x00\x00\x00\x00\x00"
	dots := "\x00\x06/.lost" + strings.Repeat("\x00", 7) + "\x00\x00\x00" + strings.Repeat("\x00", 8) + "\x00\x00\x00\x00\x00"
	if got := query.Dump(v); got != empty+dots {
		t.Errorf("of nothing: %q", got)
	}
	n := inode(stamp(0x102, 1), 0)
	n.Attr.Time, n.Attr.Mode, n.Size.N = 0x8123456789abcdef, 0o777, 66
	n.Pieces = []api.Piece{{Index: 1, At: f, Data: "xyz"}}
	n.Xattrs = []api.Xattr{{Name: "a", At: f, Val: "12"}, {Name: "b", At: f, Gone: true}, {Name: "c", At: f}}
	l := inode(stamp(0x103, 2), 0)
	v.Nodes = append(v.Nodes, n, l)
	v.Nodes[0].Xattrs = []api.Xattr{{Name: "r", At: f, Val: "v"}}
	v.Links = append(v.Links, link(n.Id, n.Id, root, "f"), link(l.Id, l.Id, root, "!"))
	want := empty[:len(empty)-1] + "\x01\x00\x01r\x00\x01v\x00" +
		"\x00\x02/!" + "\x00\x00\x00\x00\x01\x03\x02" + "\x03\x01\xe8" + zero + "\x00\x04/d/e" + "\x00\x00" + "\x00" +
		dots +
		"\x00\x02/f" + "\x00\x00\x00\x00\x01\x02\x01" + "\x01\x01\xff" + "\x81\x23\x45\x67\x89\xab\xcd\xef" + "\x00\x00" +
		"\x00\x42" + strings.Repeat("\x00", 64) + "xy" + "\x01\x00\x01a\x00\x0212" + "\x01\x00\x01c\x00\x00" + "\x00"
	was := facts.Clone(v)
	if got := query.Dump(v); got != want || !facts.Same(v, was) {
		t.Errorf("got %q\nwant %q", got, want)
	}
	v.Links[1].Name = ""
	if got := query.Dump(v); got != want[:len(empty)+7] {
		t.Errorf("of what may not be: %q", got)
	}
	if got := query.Dump(api.State{}); got != strings.Repeat("\x00", 23) {
		t.Errorf("of no inode: %q", got)
	}
}

// P14.4: each directory's paths are there, however long.
func TestDumpLong(t *testing.T) {
	total := 23 + 8 + 23
	for i := range 479 {
		total += 2 + 17*(i+1) + 23
	}
	if got := query.Dump(chain(479)); len(got) != total {
		t.Error(len(got), total)
	}
}

// P14.4: what can be asked for is unlike.
func TestNotAlike(t *testing.T) {
	for what, do := range map[string]func(v *api.State){
		"a name":               func(v *api.State) { v.Links[1].Name = "E" },
		"a place":              func(v *api.State) { v.Links[1].Parent = root },
		"a conflict's name":    func(v *api.State) { v.Links[4].At = stamp(31, 0) },
		"it shows no more":     func(v *api.State) { v.Links[1].Dead = seen },
		"it shows again":       func(v *api.State) { v.Links[6].Dead = api.Vector{} },
		"a link":               func(v *api.State) { v.Links = append(v.Links, link(stamp(10, 1), g, root, "G")) },
		"the inode of a link":  func(v *api.State) { v.Links[2].Node = g },
		"the root's mode":      func(v *api.State) { v.Nodes[0].Attr.Mode = 1 },
		"the root's time":      func(v *api.State) { v.Nodes[0].Attr.Time++ },
		"the root's xattrs":    func(v *api.State) { v.Nodes[0].Xattrs = []api.Xattr{{Name: "a", At: f}} },
		"a mode":               func(v *api.State) { v.Nodes[2].Attr.Mode = 0o751 },
		"a time":               func(v *api.State) { v.Nodes[2].Attr.Time++ },
		"a time's higher half": func(v *api.State) { v.Nodes[2].Attr.Time += 1 << 32 },
		"a text":               func(v *api.State) { v.Nodes[4].Text = "/d/E" },
		"a size":               func(v *api.State) { v.Nodes[3].Size.N = 71 },
		"a byte":               func(v *api.State) { v.Nodes[3].Pieces[0].Data = "abd" },
		"a piece":              func(v *api.State) { v.Nodes[3].Pieces = v.Nodes[3].Pieces[:1] },
		"an xattr":             func(v *api.State) { v.Nodes[3].Xattrs[0].Val = "2" },
		"an xattr is gone":     func(v *api.State) { v.Nodes[3].Xattrs[2].Gone = true },
		"an xattr came":        func(v *api.State) { v.Nodes[3].Xattrs[1].Gone = false },
		"an xattr's name":      func(v *api.State) { v.Nodes[3].Xattrs[2].Name = "y" },
		"bytes below .lost":    func(v *api.State) { v.Nodes[6].Size.N = 1 },
		"it may not be":        func(v *api.State) { v.Links[1].Name = "/" },
	} {
		v := town()
		do(&v)
		if query.Alike(v, town()) || query.Alike(town(), v) || !query.Alike(v, v) {
			t.Errorf("%s: alike", what)
		}
		if may := facts.Check(v) == api.OK; may == (what == "it may not be") {
			t.Errorf("%s: may it be? %v", what, may)
		}
	}
}

// hidden are changes of the town that nobody can ask for.
var hidden = map[string]func(v *api.State){
	"what is known":             func(v *api.State) { v.Seen[7] = 99 },
	"who wrote a mode":          func(v *api.State) { v.Nodes[2].Attr.At = stamp(40, 1) },
	"who wrote the root's":      func(v *api.State) { v.Nodes[0].Attr.At = stamp(40, 1) },
	"who wrote a size":          func(v *api.State) { v.Nodes[3].Size.At = stamp(40, 1) },
	"who wrote bytes":           func(v *api.State) { v.Nodes[3].Pieces[0].At = stamp(40, 1) },
	"bytes behind a file's end": func(v *api.State) { v.Nodes[3].Pieces[1].Data = "uvwxyz?" },
	"a piece behind it": func(v *api.State) {
		v.Nodes[3].Pieces = append(v.Nodes[3].Pieces, api.Piece{Index: 2, At: f, Data: "A"})
	},
	"noughts":                   func(v *api.State) { v.Nodes[3].Pieces[0].Data = "abc\x00\x00" },
	"an xattr that is gone":     func(v *api.State) { v.Nodes[3].Xattrs[1].Name = "bb" },
	"an xattr that was there":   func(v *api.State) { v.Nodes[3].Xattrs = append(v.Nodes[3].Xattrs[:1], v.Nodes[3].Xattrs[2]) },
	"who wrote an xattr":        func(v *api.State) { v.Nodes[3].Xattrs[0].At = stamp(40, 1) },
	"who placed a link":         func(v *api.State) { v.Links[1].At = stamp(40, 1) },
	"what was done through one": func(v *api.State) { v.Links[1].Alive[2] = 40 },
	"what one knew":             func(v *api.State) { v.Links[1].Dead[2] = 40 },
	"a link that is gone":       func(v *api.State) { v.Links = append(v.Links[:6:6], v.Links[7:]...) },
	"its name":                  func(v *api.State) { v.Links[6].Name = "other" },
	"an inode that is gone": func(v *api.State) {
		v.Links = append(v.Links[:6:6], v.Links[7:]...)
		v.Nodes = v.Nodes[:7]
	},
	"its bytes":                   func(v *api.State) { v.Nodes[7].Size.N = 9 },
	"where a conflict was placed": func(v *api.State) { v.Links[4].At = stamp(20, 0) },
}

// P14.4, P14.5: what can't be asked for is no matter: what is alike answers all alike.
func TestAlike(t *testing.T) {
	for what, do := range hidden {
		v := town()
		do(&v)
		if facts.Check(v) != api.OK {
			t.Fatalf("%s: it may not be", what)
		}
		if !query.Alike(v, town()) || !query.Alike(town(), v) {
			t.Errorf("%s: not alike", what)
		}
		if why := unlike(v, town()); why != "" {
			t.Errorf("%s: %s", what, why)
		}
	}
	other := bad()
	other.Nodes = nil
	if !query.Alike(bad(), other) || !query.Alike(api.State{}, bad()) || query.Alike(api.State{}, facts.Empty()) || query.Alike(facts.Empty(), bad()) {
		t.Error("of what may not be")
	}
}
