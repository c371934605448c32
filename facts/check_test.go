package facts_test

import (
	"math"
	"strconv"
	"strings"
	"testing"

	"crannog/api"
	"crannog/facts"
)

// change is one of what made has, and whether that may be.
type change struct {
	what string
	ok   bool
	do   func(s *api.State)
}

// all tells of each change whether Check takes what comes of it, and that it changes nothing.
func all(t *testing.T, l []change) {
	t.Helper()
	for _, c := range l {
		s := made()
		c.do(&s)
		twin := facts.Clone(s)
		want := api.EFORM
		if c.ok {
			want = api.OK
		}
		if err := facts.Check(s); err != want {
			t.Errorf("%s: %v, want %v", c.what, err, want)
		}
		if !facts.Same(s, twin) {
			t.Errorf("%s: Check changed it", c.what)
		}
	}
}

// unknown are stamps that made does not know.
var unknown = []api.Stamp{stamp(0, 0), stamp(0, 1), stamp(10, 0), stamp(6, 1), stamp(1, 2), stamp(most+1, 7), stamp(1, 8), stamp(1, -1), stamp(-1, 0), stamp(math.MaxInt, 0), stamp(math.MinInt, 0)}

// At is known wherever it stands: these are all such places, but the root's.
func ats() map[string]func(s *api.State) *api.Stamp {
	return map[string]func(s *api.State) *api.Stamp{
		"a file's Attr":    func(s *api.State) *api.Stamp { return &s.Nodes[1].Attr.At },
		"a directory's":    func(s *api.State) *api.Stamp { return &s.Nodes[2].Attr.At },
		"a symlink's":      func(s *api.State) *api.Stamp { return &s.Nodes[3].Attr.At },
		"Size":             func(s *api.State) *api.Stamp { return &s.Nodes[1].Size.At },
		"a bare Size":      func(s *api.State) *api.Stamp { return &s.Nodes[4].Size.At },
		"the first piece":  func(s *api.State) *api.Stamp { return &s.Nodes[1].Pieces[0].At },
		"the last piece":   func(s *api.State) *api.Stamp { return &s.Nodes[1].Pieces[2].At },
		"the root's xattr": func(s *api.State) *api.Stamp { return &s.Nodes[0].Xattrs[0].At },
		"a file's xattr":   func(s *api.State) *api.Stamp { return &s.Nodes[1].Xattrs[2].At },
		"one that is gone": func(s *api.State) *api.Stamp { return &s.Nodes[1].Xattrs[1].At },
		"a link":           func(s *api.State) *api.Stamp { return &s.Links[0].At },
		"the last link":    func(s *api.State) *api.Stamp { return &s.Links[4].At },
	}
}

// P10.2
func TestCheckKnown(t *testing.T) {
	all(t, []change{{"all at the edges", true, func(s *api.State) {}}})
	var l []change
	for what, at := range ats() {
		for _, u := range unknown {
			l = append(l, change{what + " unknown " + strconv.Itoa(u.Time), false, func(s *api.State) { *at(s) = u }})
		}
		for _, k := range []api.Stamp{stamp(1, 0), stamp(9, 0), stamp(1, 1), stamp(5, 1), stamp(most, 7)} {
			l = append(l, change{what + " known", true, func(s *api.State) { *at(s) = k }})
		}
	}
	for _, u := range unknown {
		l = append(l, change{"the root's Attr", u == root, func(s *api.State) { s.Nodes[0].Attr.At = u }})
	}
	l = append(l, change{"the root's Attr", true, func(s *api.State) { s.Nodes[0].Attr.At = stamp(9, 0) }})
	all(t, l)
}

// P10.2: Seen
func TestCheckSeen(t *testing.T) {
	var l []change
	for i := range api.MaxReps {
		for n, ok := range map[int]bool{most: true, most + 1: false, -1: false, math.MaxInt: false, math.MinInt: false} {
			l = append(l, change{"Seen " + strconv.Itoa(n), ok, func(s *api.State) { s.Seen[i] = n }})
		}
	}
	all(t, append(l, []change{
		{"one less known", false, func(s *api.State) { s.Seen[0]-- }},
		{"nothing known", false, func(s *api.State) { s.Seen = api.Vector{} }},
	}...))
}

// P10.2: how many, and by rising Ids
func TestCheckLists(t *testing.T) {
	file := func(i int) api.Inode {
		n := made().Nodes[4]
		n.Id = stamp(2+i/8, i%8)
		return n
	}
	link := func(i int) api.Link {
		k := made().Links[4]
		k.Id, k.Node = stamp(2+i/8, i%8), file(0).Id
		k.Alive = api.Vector{}
		k.Alive[i%8] = k.Id.Time
		return k
	}
	of := func(nodes, links int) func(s *api.State) {
		return func(s *api.State) {
			s.Seen = api.Vector{900, 900, 900, 900, 900, 900, 900, most}
			s.Nodes, s.Links = s.Nodes[:1], nil
			for i := range nodes - 1 {
				s.Nodes = append(s.Nodes, file(i))
			}
			for i := range links {
				s.Links = append(s.Links, link(i))
			}
		}
	}
	all(t, []change{
		{"no inodes", false, func(s *api.State) { s.Nodes, s.Links = nil, nil }},
		{"the root alone", true, of(1, 0)},
		{"most inodes", true, of(480, 0)},
		{"an inode more", false, of(481, 0)},
		{"most links", true, of(2, 640)},
		{"a link more", false, of(2, 641)},
		{"most of both", true, of(480, 640)},
		{"far more", false, of(40000, 40000)},
		{"no root", false, func(s *api.State) { s.Nodes, s.Links = s.Nodes[1:], s.Links[:1] }},
		{"a root that is a file", false, func(s *api.State) {
			of(1, 0)(s)
			s.Nodes[0].Kind, s.Nodes[0].Size = api.File, api.Size{At: stamp(1, 0)}
		}},
		{"a root that is a symlink", false, func(s *api.State) {
			of(1, 0)(s)
			s.Nodes[0].Kind, s.Nodes[0].Text = api.Sym, "t"
		}},
		{"another one's Id for the root", false, func(s *api.State) { s.Nodes[0].Id = stamp(1, 0) }},
		{"a root of 0, 1", false, func(s *api.State) { s.Nodes[0].Id = stamp(0, 1) }},
		{"two roots", false, func(s *api.State) { s.Nodes = append(s.Nodes[:1:1], s.Nodes...) }},
		{"an inode ahead of the root", false, func(s *api.State) { s.Nodes = append([]api.Inode{file(1)}, s.Nodes...) }},
		{"an inode twice", false, func(s *api.State) { s.Nodes = append(s.Nodes, s.Nodes[4]) }},
		{"inodes the other way", false, func(s *api.State) { s.Nodes[3], s.Nodes[4] = s.Nodes[4], s.Nodes[3] }},
		{"inodes of one time the other way", false, func(s *api.State) { s.Nodes[1], s.Nodes[2] = s.Nodes[2], s.Nodes[1] }},
		{"a link twice", false, func(s *api.State) { s.Links = append(s.Links, s.Links[4]) }},
		{"links the other way", false, func(s *api.State) { s.Links[3], s.Links[4] = s.Links[4], s.Links[3] }},
		{"links of one time the other way", false, func(s *api.State) { s.Links[0], s.Links[1] = s.Links[1], s.Links[0] }},
		{"the last links the other way", false, func(s *api.State) {
			of(480, 640)(s)
			s.Links[638], s.Links[639] = s.Links[639], s.Links[638]
		}},
		{"the last inodes the other way", false, func(s *api.State) {
			of(480, 640)(s)
			s.Nodes[478], s.Nodes[479] = s.Nodes[479], s.Nodes[478]
		}},
		{"an unknown inode", false, func(s *api.State) { s.Nodes = append(s.Nodes[:4], file(6)) }},
		{"an inode that no event made", false, func(s *api.State) {
			n := s.Nodes[4]
			n.Id = stamp(0, 1)
			s.Nodes = append([]api.Inode{s.Nodes[0], n}, s.Nodes[1:]...)
		}},
		{"an inode with no link", true, func(s *api.State) { s.Links = s.Links[:4] }},
	})
}

// P10.2: inodes
func TestCheckNodes(t *testing.T) {
	var l []change
	for i, name := range []string{"the root", "a file", "a directory", "a symlink"} {
		for _, kind := range []int{math.MinInt, -1, 0, 4, math.MaxInt} {
			l = append(l, change{name + " of no kind", false, func(s *api.State) { s.Nodes[i].Kind = kind }})
		}
		for mode, ok := range map[int]bool{math.MinInt: false, -1: false, 0: true, 511: true, 512: false, math.MaxInt: false} {
			l = append(l, change{name + "'s mode " + strconv.Itoa(mode), ok, func(s *api.State) { s.Nodes[i].Attr.Mode = mode }})
		}
		for time, ok := range map[uint64]bool{0: false, minTime - 1: false, minTime: true, 1<<63 - 1: false, 1 << 63: true, maxTime: true, maxTime + 1: false, math.MaxUint64: false} {
			l = append(l, change{name + "'s time " + strconv.FormatUint(time, 16), ok, func(s *api.State) { s.Nodes[i].Attr.Time = time }})
		}
		sym := i == 3
		for n, ok := range map[int]bool{0: !sym, 1: sym, 120: sym, 121: false, 70000: false} {
			l = append(l, change{name + "'s text of " + strconv.Itoa(n), ok, func(s *api.State) { s.Nodes[i].Text = strings.Repeat("\x00", n) }})
		}
		l = append(l,
			change{name + "'s bytes", i == 1, func(s *api.State) { s.Nodes[i].Size = api.Size{At: stamp(1, 0), N: 1} }},
			change{name + "'s size of an event", i == 1, func(s *api.State) { s.Nodes[i].Size = api.Size{At: stamp(1, 0)} }},
			change{name + "'s size of none", false, func(s *api.State) { s.Nodes[i].Size = api.Size{N: 1} }},
			change{name + "'s piece", i == 1, func(s *api.State) { s.Nodes[i].Pieces = []api.Piece{{At: stamp(1, 0)}} }},
			change{name + "'s xattr", true, func(s *api.State) { s.Nodes[i].Xattrs = []api.Xattr{{Name: "a", At: stamp(1, 0)}} }},
		)
	}
	all(t, l)
}

// P10.2: a file's bytes
func TestCheckBytes(t *testing.T) {
	pieces := func(l ...api.Piece) func(s *api.State) {
		return func(s *api.State) { s.Nodes[1].Pieces = l }
	}
	piece := func(i int) api.Piece { return api.Piece{Index: i, At: stamp(1, 0)} }
	of := func(n int) api.Piece { return api.Piece{At: stamp(1, 0), Data: strings.Repeat("p", n)} }
	var every []api.Piece
	for i := range 16 {
		every = append(every, piece(i))
	}
	l := []change{
		{"no pieces", true, pieces()},
		{"all pieces", true, pieces(every...)},
		{"a piece more", false, pieces(append(every, piece(16))...)},
		{"piece -1", false, pieces(append([]api.Piece{piece(-1)}, every...)...)},
		{"piece 16", false, pieces(piece(16))},
		{"the last one", true, pieces(piece(15))},
		{"the least one", false, pieces(piece(math.MinInt))},
		{"the greatest one", false, pieces(piece(math.MaxInt))},
		{"one twice", false, pieces(piece(3), piece(3))},
		{"the other way", false, pieces(piece(4), piece(3))},
		{"the last two the other way", false, pieces(piece(1), piece(4), piece(3))},
		{"the first two the other way", false, pieces(piece(2), piece(1), piece(3))},
		{"one many times", false, pieces(make([]api.Piece, 100000)...)},
		{"a piece of 64", true, pieces(of(64))},
		{"a piece of 65", false, pieces(of(65))},
	}
	for n, ok := range map[int]bool{math.MinInt: false, -1: false, 0: true, 1: true, 1024: true, 1025: false, math.MaxInt: false} {
		l = append(l, change{"a size of " + strconv.Itoa(n), ok, func(s *api.State) { s.Nodes[1].Size.N = n }})
	}
	all(t, l)
}

// P10.2: xattrs
func TestCheckXattrs(t *testing.T) {
	xattr := func(name string) api.Xattr { return api.Xattr{Name: name, At: stamp(1, 0)} }
	many := func(n int) []api.Xattr {
		var l []api.Xattr
		for i := range n {
			l = append(l, xattr("x"+strconv.Itoa(100+i)))
		}
		return l
	}
	val := func(n int) []api.Xattr {
		return []api.Xattr{{Name: "a", At: stamp(1, 0), Val: strings.Repeat("v", n)}}
	}
	var l []change
	for i := range 5 {
		for _, c := range []struct {
			what string
			ok   bool
			l    []api.Xattr
		}{
			{"none", true, nil},
			{"32", true, many(32)},
			{"33", false, many(33)},
			{"far more", false, many(70000)},
			{"no name", false, []api.Xattr{xattr("")}},
			{"a name of 16", true, []api.Xattr{xattr(strings.Repeat("n", 16))}},
			{"a name of 17", false, []api.Xattr{xattr(strings.Repeat("n", 17))}},
			{"a dot", false, []api.Xattr{xattr(".")}},
			{"two dots", false, []api.Xattr{xattr("..")}},
			{"a slash", false, []api.Xattr{xattr("a/b")}},
			{"a nought", false, []api.Xattr{xattr("a\x00")}},
			{"the name .lost", true, []api.Xattr{xattr(api.Lost)}},
			{"a name by another length", true, []api.Xattr{xattr("aa"), xattr("b"), xattr("ba")}},
			{"names by their lengths", false, []api.Xattr{xattr("b"), xattr("aa")}},
			{"a name twice", false, []api.Xattr{xattr("a"), xattr("a")}},
			{"the last ones the other way", false, []api.Xattr{xattr("a"), xattr("c"), xattr("b")}},
			{"the last name is none", false, []api.Xattr{xattr("a"), xattr("b/")}},
			{"a value of 32", true, val(32)},
			{"a value of 33", false, val(33)},
			{"gone", true, []api.Xattr{{Name: "a", At: stamp(1, 0), Gone: true}}},
			{"gone, with a value", false, []api.Xattr{{Name: "a", At: stamp(1, 0), Gone: true, Val: "v"}}},
		} {
			l = append(l, change{c.what + ", of inode " + strconv.Itoa(i), c.ok, func(s *api.State) { s.Nodes[i].Xattrs = c.l }})
		}
	}
	all(t, l)
}

// P10.2: links
func TestCheckLinks(t *testing.T) {
	l := []change{
		{"a link to the root", false, func(s *api.State) { s.Links[2].Node = root }},
		{"a link to no inode", false, func(s *api.State) { s.Links[2].Node = stamp(4, 1) }},
		{"a link to 0, 1", false, func(s *api.State) { s.Links[2].Node = stamp(0, 1) }},
		{"a link in a file", false, func(s *api.State) { s.Links[2].Parent = file }},
		{"a link in a symlink", false, func(s *api.State) { s.Links[2].Parent = sym }},
		{"a link in no inode", false, func(s *api.State) { s.Links[2].Parent = stamp(4, 1) }},
		{"a link in the directory of conflicts", false, func(s *api.State) { s.Links[2].Parent = stamp(0, 1) }},
		{"a directory in itself", true, func(s *api.State) { s.Links[1].Parent = dir }},
		{"a directory with two links", false, func(s *api.State) { s.Links[2].Node = dir }},
		{"a directory with no link", false, func(s *api.State) { s.Links[1].Node = file }},
		{"a directory with none at all", false, func(s *api.State) { s.Links = nil }},
		{"an event that is unknown made it", false, func(s *api.State) { s.Links[2].Id = stamp(4, 2) }},
		{"no event made it", false, func(s *api.State) { s.Links[0].Id = stamp(0, 0) }},
		{"one that is known made it", true, func(s *api.State) { s.Links[2].Id = stamp(2, 7); s.Links[2].Alive[7] = 2 }},
		{"not alive at all", false, func(s *api.State) { s.Links[2].Alive = api.Vector{} }},
		{"not alive by who made it", false, func(s *api.State) { s.Links[2].Alive = api.Vector{2, 5} }},
		{"just alive", true, func(s *api.State) { s.Links[3].Alive = api.Vector{0, 4} }},
		{"just not alive", false, func(s *api.State) { s.Links[3].Alive = api.Vector{9, 3} }},
	}
	for _, k := range []int{2, 3} { // in the root, in another directory
		for name, ok := range map[string]bool{"": false, ".": false, "..": false, "a/b": false, "a\x00": false, ".los": true, ".losu": true, ".lost2": true, strings.Repeat("n", 16): true, strings.Repeat("n", 17): false, strings.Repeat("n", 70000): false, api.Lost: k == 3} {
			l = append(l, change{"the name " + name, ok, func(s *api.State) { s.Links[k].Name = name }})
		}
	}
	vectors := map[string]func(k *api.Link) *api.Vector{
		"Alive": func(k *api.Link) *api.Vector { return &k.Alive },
		"Dead":  func(k *api.Link) *api.Vector { return &k.Dead },
	}
	for what, of := range vectors {
		for i := range api.MaxReps {
			for _, c := range []struct {
				n  int
				ok bool
			}{{math.MinInt, false}, {-1, false}, {made().Seen[i], true}, {made().Seen[i] + 1, false}, {math.MaxInt, false}} {
				l = append(l, change{what + " " + strconv.Itoa(c.n) + " of " + strconv.Itoa(i), c.ok, func(s *api.State) { of(&s.Links[1])[i] = c.n }})
			}
		}
	}
	all(t, append(l, change{"nothing unlinked", true, func(s *api.State) { s.Links[0].Dead = api.Vector{} }}))
}

// DOC, Ends: what is made by hand, and far too great
func TestCheckByHand(t *testing.T) {
	huge := strings.Repeat("h", 1<<20)
	for what, s := range map[string]api.State{
		"nothing":    {},
		"noughts":    {Nodes: make([]api.Inode, 480), Links: make([]api.Link, 640)},
		"great text": {Nodes: []api.Inode{{Kind: api.Dir, Text: huge}}},
		"no inodes":  {Seen: api.Vector{1}, Links: []api.Link{{Id: stamp(1, 0), Name: huge}}},
	} {
		if err := facts.Check(s); err != api.EFORM {
			t.Errorf("%s: %v", what, err)
		}
	}
}
