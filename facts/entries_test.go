package facts_test

import (
	"math"
	"slices"
	"strings"
	"testing"

	"crannog/api"
	"crannog/facts"
)

// P10.3: the document's example
func TestEntriesOfEmpty(t *testing.T) {
	want := []api.Entry{
		{Key: "n\x00\x00\x00\x00\x00\x00\x00", Val: "\x02" + "\x00\x00" + form(root) + "\x01\xed" + "\x80\x00\x00\x00\x00\x00\x00\x00" + form(root) + "\x00\x00"},
		{Key: "v", Val: strings.Repeat("\x00", 48)},
	}
	if l := facts.Entries(facts.Empty()); !slices.Equal(l, want) {
		t.Errorf("%q, want %q", l, want)
	}
}

// linkVal and nodeVal are values, written once more from the document.
func linkVal(k api.Link) string {
	return form(k.Node) + form(k.At) + form(k.Parent) + text(k.Name) + row(k.Alive) + row(k.Dead)
}

func nodeVal(n api.Inode) string {
	time := number(int(n.Attr.Time>>32), 4) + number(int(n.Attr.Time&0xffffffff), 4)
	return number(n.Kind, 1) + text(n.Text) + form(n.Attr.At) + number(n.Attr.Mode, 2) + time + form(n.Size.At) + number(n.Size.N, 2)
}

// P10.3
func TestEntries(t *testing.T) {
	s := made()
	var want []api.Entry
	add := func(key, val string) { want = append(want, api.Entry{Key: key, Val: val}) }
	for _, k := range s.Links {
		add("l"+form(k.Id), linkVal(k))
	}
	for _, n := range s.Nodes {
		add("n"+form(n.Id), nodeVal(n))
	}
	add("p"+form(file)+"\x00", form(stamp(1, 0))+"\x00\x00")
	add("p"+form(file)+"\x03", form(stamp(9, 0))+"\x00\x03a\x00\xff")
	add("p"+form(file)+"\x0f", form(stamp(1, 1))+"\x00\x40"+strings.Repeat("b", 64))
	add("v", row(s.Seen))
	add("x"+form(root)+"\x00\x01r", form(stamp(5, 1))+"\x00"+"\x00\x00")
	add("x"+form(file)+"\x00\x01b", form(stamp(4, 0))+"\x01"+"\x00\x00")
	add("x"+form(file)+"\x00\x02aa", form(stamp(1, 0))+"\x00"+"\x00\x20"+strings.Repeat("c", 32))
	add("x"+form(file)+"\x00\x10"+strings.Repeat("n", 16), form(stamp(most, 7))+"\x00"+"\x00\x01v")
	add("x"+form(sym)+"\x00\x01u", form(stamp(1, 7))+"\x00"+"\x00\x01w")
	got := facts.Entries(s)
	if !slices.Equal(got, want) {
		t.Errorf("%q, want %q", got, want)
	}
	if !facts.Same(s, made()) {
		t.Error("Entries changed the state")
	}
	clear(got[:cap(got)])
	if again := facts.Entries(s); !slices.Equal(again, want) {
		t.Error("two rows of entries share memory")
	}
}

// P10.3: of states that may not be, too; alike keys as they come
func TestEntriesByHand(t *testing.T) {
	long := strings.Repeat("t", 70000)
	cut := "\xff\xff" + long[:65535]
	s := api.State{
		Seen: api.Vector{-1, 1<<48 + 2},
		Nodes: []api.Inode{
			{Id: stamp(9, 0), Kind: 257, Text: "second"},
			{Id: stamp(1, 0), Kind: -1, Text: long, Pieces: []api.Piece{{Index: 255, Data: "a"}, {Index: -1, Data: "b"}, {Index: 7, Data: long}, {Index: 511, Data: "c"}}, Xattrs: []api.Xattr{{Name: "b", Val: "1"}, {Name: "b", Gone: true, Val: "2"}, {Name: "", Val: "3"}}},
			{Id: stamp(9, 0), Kind: 3, Text: "third", Attr: api.Attr{At: stamp(-1, -1), Mode: 1<<16 + 5, Time: math.MaxUint64}, Size: api.Size{At: stamp(7, 9), N: -2}},
		},
		Links: []api.Link{{Id: stamp(4, 300), Name: "x"}, {Id: stamp(4, 44), Name: long}},
	}
	id, zero := form(stamp(1, 0)), form(root)
	want := []api.Entry{
		{Key: "l" + form(stamp(4, 300)), Val: zero + zero + zero + "\x00\x01x" + strings.Repeat("\x00", 96)},
		{Key: "l" + form(stamp(4, 44)), Val: zero + zero + zero + cut + strings.Repeat("\x00", 96)},
		{Key: "n" + id, Val: "\xff" + cut + strings.Repeat("\x00", 26)},
		{Key: "n" + form(stamp(9, 0)), Val: "\x01\x00\x06second" + strings.Repeat("\x00", 26)},
		{Key: "n" + form(stamp(9, 0)), Val: "\x03\x00\x05third" + form(stamp(-1, -1)) + "\x00\x05" + "\xff\xff\xff\xff\xff\xff\xff\xff" + form(stamp(7, 9)) + "\xff\xfe"},
		{Key: "p" + id + "\x07", Val: zero + cut},
		{Key: "p" + id + "\xff", Val: zero + "\x00\x01a"},
		{Key: "p" + id + "\xff", Val: zero + "\x00\x01b"},
		{Key: "p" + id + "\xff", Val: zero + "\x00\x01c"},
		{Key: "v", Val: "\xff\xff\xff\xff\xff\xff" + "\x00\x00\x00\x00\x00\x02" + strings.Repeat("\x00", 36)},
		{Key: "x" + id + "\x00\x00", Val: zero + "\x00\x00\x013"},
		{Key: "x" + id + "\x00\x01b", Val: zero + "\x00\x00\x011"},
		{Key: "x" + id + "\x00\x01b", Val: zero + "\x01\x00\x012"},
	}
	if got := facts.Entries(s); !slices.Equal(got, want) {
		for i := range min(len(got), len(want)) {
			if got[i] != want[i] {
				t.Errorf("entry %d: %.80q, want %.80q", i, got[i], want[i])
			}
		}
		t.Errorf("%d entries, want %d", len(got), len(want))
	}
	if got := facts.Entries(api.State{}); !slices.Equal(got, []api.Entry{{Key: "v", Val: strings.Repeat("\x00", 48)}}) {
		t.Errorf("of nothing: %q", got)
	}
}

// none tells that State has EFORM, and nothing, of a row of entries.
func none(t *testing.T, what string, l []api.Entry) {
	t.Helper()
	if s, err := facts.State(l); err != api.EFORM || s.Seen != (api.Vector{}) || s.Nodes != nil || s.Links != nil {
		t.Errorf("%s: %.200v, %v", what, s, err)
	}
}

// just tells that State takes a row of entries, if it is just a state's, and no other one; and whether it does.
func just(t *testing.T, what string, l []api.Entry) bool {
	t.Helper()
	s, err := facts.State(l)
	if err != api.OK {
		none(t, what, l)
		return false
	}
	if facts.Check(s) != api.OK || !slices.Equal(facts.Entries(s), l) {
		t.Errorf("%s: %.200v", what, s)
	}
	return true
}

// P10.4, P10.5
func TestState(t *testing.T) {
	for what, s := range map[string]api.State{"made": made(), "empty": facts.Empty()} {
		l := facts.Entries(s)
		twin := slices.Clone(l)
		got, err := facts.State(l)
		if err != api.OK || !facts.Same(got, s) {
			t.Errorf("%s: %v, %v", what, got, err)
		}
		if !slices.Equal(l, twin) {
			t.Errorf("%s: State changed the entries", what)
		}
	}
	l := facts.Entries(made())
	one, _ := facts.State(l)
	two, _ := facts.State(l)
	for what, change := range others() {
		change(&one)
		if !facts.Same(two, made()) {
			t.Fatalf("two states share memory: %s", what)
		}
		one, _ = facts.State(l)
	}
}

// loose tells whether an entry of what made has can go by itself: the others speak of Seen, of inodes, and each directory has a link.
func loose(key string) bool {
	return strings.ContainsAny(key[:1], "lpx") && key != "l"+form(links[1])
}

// P10.4: rows that are no state's
func TestStateWrongRows(t *testing.T) {
	l := facts.Entries(made())
	none(t, "nil", nil)
	none(t, "no entries", []api.Entry{})
	none(t, "an empty entry", []api.Entry{{}})
	none(t, "noughts", make([]api.Entry, 1000))
	for i, en := range l {
		if taken := just(t, "without "+en.Key, slices.Delete(slices.Clone(l), i, i+1)); taken != loose(en.Key) {
			t.Errorf("without %q: %v", en.Key, taken)
		}
		none(t, "twice "+en.Key, slices.Insert(slices.Clone(l), i, en))
		none(t, "at the end too "+en.Key, append(slices.Clone(l), en))
		none(t, "ahead of all, too "+en.Key, slices.Insert(slices.Clone(l), 0, en))
		for j := range i {
			other := slices.Clone(l)
			other[i], other[j] = other[j], other[i]
			none(t, "out of order", other)
		}
	}
	for what, en := range map[string]api.Entry{
		"an empty key":                    {},
		"a key that begins otherwise":     {Key: "w", Val: row(api.Vector{})},
		"a capital":                       {Key: "V", Val: row(api.Vector{})},
		"a vector more":                   {Key: "v", Val: row(made().Seen)},
		"a vector with a key behind it":   {Key: "v\x00", Val: row(made().Seen)},
		"a piece of no inode":             {Key: "p" + form(stamp(9, 0)) + "\x00", Val: form(stamp(1, 0)) + "\x00\x00"},
		"an xattr of no inode":            {Key: "x" + form(stamp(9, 0)) + "\x00\x01a", Val: form(stamp(1, 0)) + "\x00\x00\x00"},
		"a piece of a directory":          {Key: "p" + form(dir) + "\x00", Val: form(stamp(1, 0)) + "\x00\x00"},
		"a stamp that is none":            {Key: "n" + form(stamp(0, 1)), Val: nodeVal(made().Nodes[4])},
		"a stamp that is cut":             {Key: "n" + form(stamp(1, 1))[:6]},
		"a name that is longer than told": {Key: "x" + form(dir) + "\x00\x01ab", Val: form(stamp(1, 0)) + "\x00\x00\x00"},
		"a name without its length":       {Key: "x" + form(dir) + "a", Val: form(stamp(1, 0)) + "\x00\x00\x00"},
	} {
		other := append(slices.Clone(l), en)
		slices.SortStableFunc(other, func(a, b api.Entry) int { return strings.Compare(a.Key, b.Key) })
		none(t, what, other)
	}
	more := api.Entry{Key: "x" + form(dir) + "\x00\x01a", Val: form(stamp(1, 0)) + "\x00\x00\x00"}
	i, _ := slices.BinarySearchFunc(l, more, func(a, b api.Entry) int { return strings.Compare(a.Key, b.Key) })
	if s, err := facts.State(slices.Insert(slices.Clone(l), i, more)); err != api.OK || len(s.Nodes[2].Xattrs) != 1 {
		t.Errorf("an xattr more: %v", err)
	}
}

// P10.4: each byte of each entry may be wrong; what is taken is just that state's row.
func TestStateWrongBytes(t *testing.T) {
	l := facts.Entries(made())
	taken := 0
	try := func(i int, en api.Entry) {
		if just(t, en.Key, slices.Replace(slices.Clone(l), i, i+1, en)) {
			taken++
		}
	}
	for i, en := range l {
		for j := range len(en.Key) + len(en.Val) {
			for _, to := range []byte{0, 1, 2, 7, 8, 255} {
				b := []byte(en.Key + en.Val)
				b[j] = to
				try(i, api.Entry{Key: string(b[:len(en.Key)]), Val: string(b[len(en.Key):])})
			}
		}
		none(t, "cut", slices.Replace(slices.Clone(l), i, i+1, api.Entry{Key: en.Key, Val: en.Val[:len(en.Val)-1]}))
		none(t, "more", slices.Replace(slices.Clone(l), i, i+1, api.Entry{Key: en.Key, Val: en.Val + "\x00"}))
		none(t, "no value", slices.Replace(slices.Clone(l), i, i+1, api.Entry{Key: en.Key}))
		// The same bytes, but parted elsewhere:
		none(t, "a longer key", slices.Replace(slices.Clone(l), i, i+1, api.Entry{Key: en.Key + en.Val[:1], Val: en.Val[1:]}))
		none(t, "a shorter key", slices.Replace(slices.Clone(l), i, i+1, api.Entry{Key: en.Key[:len(en.Key)-1], Val: en.Key[len(en.Key)-1:] + en.Val}))
		none(t, "all in the key", slices.Replace(slices.Clone(l), i, i+1, api.Entry{Key: en.Key + en.Val}))
		none(t, "nothing in the key", slices.Replace(slices.Clone(l), i, i+1, api.Entry{Val: en.Key + en.Val}))
	}
	if taken == 0 {
		t.Error("no row was taken")
	}
}

// P10.4: rows of states whose Check has an error
func TestStateChecked(t *testing.T) {
	for what, change := range map[string]func(s *api.State){
		"an unknown At":         func(s *api.State) { s.Nodes[1].Attr.At = stamp(10, 0) },
		"a link to no inode":    func(s *api.State) { s.Links[2].Node = stamp(4, 1) },
		"the name .lost":        func(s *api.State) { s.Links[2].Name = api.Lost },
		"no root":               func(s *api.State) { s.Nodes, s.Links = s.Nodes[3:], nil },
		"names out of order":    func(s *api.State) { slices.Reverse(s.Nodes[1].Xattrs) },
		"pieces out of order":   func(s *api.State) { slices.Reverse(s.Nodes[1].Pieces) },
		"inodes out of order":   func(s *api.State) { slices.Reverse(s.Nodes) },
		"links out of order":    func(s *api.State) { slices.Reverse(s.Links) },
		"a mode above":          func(s *api.State) { s.Nodes[2].Attr.Mode = 512 },
		"a mode that is cut":    func(s *api.State) { s.Nodes[2].Attr.Mode = 1 << 16 },
		"a text that is longer": func(s *api.State) { s.Nodes[3].Text += "t" },
	} {
		s := made()
		change(&s)
		if err := facts.Check(s); err != api.EFORM {
			t.Errorf("%s: Check %v", what, err)
		}
		// What is out of order, or cut, has another state's row: which may be.
		if got, err := facts.State(facts.Entries(s)); (err == api.OK) != (strings.Contains(what, "out of order") || strings.Contains(what, "cut")) || err == api.OK && facts.Same(got, s) {
			t.Errorf("%s: %v", what, err)
		}
	}
}
