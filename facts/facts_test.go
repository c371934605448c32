package facts_test

import (
	"encoding/binary"
	"math"
	"slices"
	"strings"
	"testing"

	"crannog/api"
	"crannog/facts"
	"crannog/instant"
)

const (
	most    = api.MaxTime
	maxTime = uint64(0xfff0000000000000) // instant.Last()
	minTime = uint64(0x000fffffffffffff) // instant.First()
)

func stamp(time, who int) api.Stamp { return api.Stamp{Time: time, Who: who} }

var root = api.Stamp{}

// Ids of what made has.
var (
	file  = stamp(2, 0)
	dir   = stamp(2, 1)
	sym   = stamp(3, 0)
	bare  = stamp(most, 7)
	links = []api.Stamp{stamp(2, 0), stamp(2, 1), stamp(3, 0), stamp(4, 1), stamp(most, 7)}
)

// made is a state that has all that may be, at the edges.
func made() api.State {
	return api.State{
		Seen: api.Vector{9, 5, 0, 0, 0, 0, 0, most},
		Nodes: []api.Inode{
			{Kind: api.Dir, Attr: api.Attr{Mode: 493, Time: 1 << 63}, Xattrs: []api.Xattr{{Name: "r", At: stamp(5, 1), Val: ""}}},
			{
				Id: file, Kind: api.File, Attr: api.Attr{At: stamp(9, 0), Mode: 511, Time: maxTime}, Size: api.Size{At: stamp(5, 1), N: api.MaxSize},
				Pieces: []api.Piece{{Index: 0, At: stamp(1, 0), Data: ""}, {Index: 3, At: stamp(9, 0), Data: "a\x00\xff"}, {Index: 15, At: stamp(1, 1), Data: strings.Repeat("b", 64)}},
				Xattrs: []api.Xattr{{Name: "aa", At: stamp(1, 0), Val: strings.Repeat("c", 32)}, {Name: "b", At: stamp(4, 0), Gone: true}, {Name: strings.Repeat("n", 16), At: stamp(most, 7), Val: "v"}},
			},
			{Id: dir, Kind: api.Dir, Attr: api.Attr{At: stamp(2, 1), Mode: 0, Time: minTime}},
			{Id: sym, Kind: api.Sym, Text: strings.Repeat("t", 120), Attr: api.Attr{At: stamp(3, 0), Mode: 1, Time: 1<<63 + 258}, Xattrs: []api.Xattr{{Name: "u", At: stamp(1, 7), Val: "w"}}},
			{Id: bare, Kind: api.File, Attr: api.Attr{At: bare, Time: 1 << 63}, Size: api.Size{At: bare}},
		},
		Links: []api.Link{
			{Id: links[0], Node: file, At: stamp(9, 0), Parent: dir, Name: "f", Alive: api.Vector{2}, Dead: api.Vector{9, 5, 0, 0, 0, 0, 0, most}},
			{Id: links[1], Node: dir, At: stamp(1, 0), Parent: root, Name: strings.Repeat("d", 16), Alive: api.Vector{9, 5, 0, 0, 0, 0, 0, most}},
			{Id: links[2], Node: sym, At: stamp(3, 0), Parent: root, Name: "f", Alive: api.Vector{3}, Dead: api.Vector{2}},
			{Id: links[3], Node: file, At: stamp(4, 1), Parent: dir, Name: api.Lost, Alive: api.Vector{0, 4}},
			{Id: links[4], Node: bare, At: bare, Parent: root, Name: "f", Alive: api.Vector{7: most}},
		},
	}
}

// number, text, form and row are bytes, written once more from the document.
func number(n, width int) string {
	return string(binary.BigEndian.AppendUint64(nil, uint64(n))[8-width:])
}

func text(s string) string { return number(len(s), 2) + s }

func form(s api.Stamp) string { return number(s.Time, 6) + number(s.Who, 1) }

func row(v api.Vector) string {
	b := ""
	for _, n := range v {
		b += number(n, 6)
	}
	return b
}

// P10.1
func TestEmpty(t *testing.T) {
	s := facts.Empty()
	zero, _ := instant.Of(0)
	if s.Seen != (api.Vector{}) || len(s.Links) != 0 || len(s.Nodes) != 1 {
		t.Fatalf("Empty: %v", s)
	}
	n := s.Nodes[0]
	if n.Id != root || n.Kind != api.Dir || n.Text != "" || n.Attr != (api.Attr{Mode: 493, Time: zero}) || n.Size != (api.Size{}) || len(n.Pieces) != 0 || len(n.Xattrs) != 0 {
		t.Errorf("the root: %v", n)
	}
	if err := facts.Check(s); err != api.OK {
		t.Errorf("Check: %v", err)
	}
	s.Nodes[0].Kind = api.File
	if again := facts.Empty(); again.Nodes[0].Kind != api.Dir {
		t.Error("two that are empty share their inodes")
	}
}

// P10.1
func TestNode(t *testing.T) {
	s := made()
	for i, id := range []api.Stamp{root, file, dir, sym, bare} {
		if n, ok := facts.Node(s, id); !ok || n.Id != id || n.Kind != s.Nodes[i].Kind || n.Attr != s.Nodes[i].Attr || !slices.Equal(n.Pieces, s.Nodes[i].Pieces) || !slices.Equal(n.Xattrs, s.Nodes[i].Xattrs) || n.Text != s.Nodes[i].Text || n.Size != s.Nodes[i].Size {
			t.Errorf("Node(%v): %v, %v", id, n, ok)
		}
	}
	for _, id := range []api.Stamp{stamp(0, 1), stamp(2, 2), stamp(4, 1), stamp(-1, -1), stamp(math.MaxInt, 0)} {
		n, ok := facts.Node(s, id)
		if ok || n.Id != root || n.Kind != 0 || n.Text != "" || n.Attr != (api.Attr{}) || n.Size != (api.Size{}) || n.Pieces != nil || n.Xattrs != nil {
			t.Errorf("Node(%v): %v, %v", id, n, ok)
		}
	}
	odd := stamp(-4, 99)
	s = api.State{Nodes: []api.Inode{{Id: file, Kind: 1}, {Id: odd, Kind: 7}, {Id: odd, Kind: 8}, {Id: file, Kind: 2}}}
	for id, kind := range map[api.Stamp]int{file: 1, odd: 7} {
		if n, ok := facts.Node(s, id); !ok || n.Kind != kind {
			t.Errorf("Node(%v) is not the first one: %v, %v", id, n, ok)
		}
	}
	if _, ok := facts.Node(s, root); ok {
		t.Error("a root that is not there")
	}
	if _, ok := facts.Node(api.State{}, root); ok {
		t.Error("a root of nothing")
	}
}

// others are changes of what made has, each in one part.
func others() map[string]func(s *api.State) {
	return map[string]func(s *api.State){
		"Seen":          func(s *api.State) { s.Seen[3]++ },
		"no inodes":     func(s *api.State) { s.Nodes = nil },
		"an inode less": func(s *api.State) { s.Nodes = s.Nodes[:4] },
		"an inode more": func(s *api.State) { s.Nodes = append(s.Nodes, api.Inode{}) },
		"Id's time":     func(s *api.State) { s.Nodes[1].Id.Time-- },
		"Id's who":      func(s *api.State) { s.Nodes[4].Id.Who++ },
		"Kind":          func(s *api.State) { s.Nodes[1].Kind = 4 },
		"Text":          func(s *api.State) { s.Nodes[3].Text += "u" },
		"Attr's At":     func(s *api.State) { s.Nodes[0].Attr.At.Who = 1 },
		"Mode":          func(s *api.State) { s.Nodes[2].Attr.Mode++ },
		"Time":          func(s *api.State) { s.Nodes[2].Attr.Time++ },
		"Size's At":     func(s *api.State) { s.Nodes[1].Size.At.Time++ },
		"N":             func(s *api.State) { s.Nodes[1].Size.N-- },
		"no pieces":     func(s *api.State) { s.Nodes[1].Pieces = nil },
		"a piece more":  func(s *api.State) { s.Nodes[4].Pieces = []api.Piece{{}} },
		"Index":         func(s *api.State) { s.Nodes[1].Pieces[2].Index-- },
		"a piece's At":  func(s *api.State) { s.Nodes[1].Pieces[0].At.Time++ },
		"Data":          func(s *api.State) { s.Nodes[1].Pieces[1].Data = "a\x00\xfe" },
		"no xattrs":     func(s *api.State) { s.Nodes[3].Xattrs = nil },
		"an xattr more": func(s *api.State) { s.Nodes[4].Xattrs = []api.Xattr{{}} },
		"Name":          func(s *api.State) { s.Nodes[1].Xattrs[0].Name = "ab" },
		"an xattr's At": func(s *api.State) { s.Nodes[1].Xattrs[1].At.Who++ },
		"Val":           func(s *api.State) { s.Nodes[0].Xattrs[0].Val = "v" },
		"Gone":          func(s *api.State) { s.Nodes[1].Xattrs[1].Gone = false },
		"no links":      func(s *api.State) { s.Links = nil },
		"a link less":   func(s *api.State) { s.Links = s.Links[:4] },
		"a link's Id":   func(s *api.State) { s.Links[0].Id.Who++ },
		"a link's Node": func(s *api.State) { s.Links[0].Node = sym },
		"a link's At":   func(s *api.State) { s.Links[0].At.Time-- },
		"Parent":        func(s *api.State) { s.Links[4].Parent = dir },
		"a link's Name": func(s *api.State) { s.Links[4].Name = "F" },
		"Alive":         func(s *api.State) { s.Links[4].Alive[0]++ },
		"Dead":          func(s *api.State) { s.Links[4].Dead[7]++ },
	}
}

// P10.1
func TestSame(t *testing.T) {
	if !facts.Same(made(), made()) || !facts.Same(api.State{}, api.State{}) || !facts.Same(facts.Empty(), facts.Empty()) {
		t.Error("what is alike is not the same")
	}
	hollow := api.State{Nodes: []api.Inode{{Pieces: []api.Piece{}, Xattrs: []api.Xattr{}}}, Links: []api.Link{}}
	if plain := (api.State{Nodes: []api.Inode{{}}}); !facts.Same(hollow, plain) || !facts.Same(plain, hollow) || !facts.Same(api.State{}, api.State{Nodes: []api.Inode{}}) {
		t.Error("empty lists are not the same as none")
	}
	for what, change := range others() {
		s := made()
		change(&s)
		if facts.Same(s, made()) || facts.Same(made(), s) {
			t.Errorf("another one is the same: %s", what)
		}
		if twin := facts.Clone(s); !facts.Same(twin, s) {
			t.Errorf("Clone is another one: %s", what)
		}
	}
}

// P10.1: what is done to a clone, or to what it came from, changes nothing of the other one, the room behind lists included.
func TestClone(t *testing.T) {
	for what, change := range others() {
		s := made()
		twin := facts.Clone(s)
		change(&s)
		if !facts.Same(twin, made()) {
			t.Errorf("the clone shares %s", what)
		}
		s = made()
		twin = facts.Clone(s)
		change(&twin)
		if !facts.Same(s, made()) {
			t.Errorf("what was cloned shares %s", what)
		}
	}
	s := made()
	s.Nodes, s.Links = append(s.Nodes, api.Inode{Kind: 9})[:5], append(s.Links, api.Link{Name: "x"})[:5]
	n := &s.Nodes[1]
	n.Pieces, n.Xattrs = append(n.Pieces, api.Piece{Index: 9})[:3], append(n.Xattrs, api.Xattr{Name: "x"})[:3]
	twin := facts.Clone(s)
	twin.Nodes, twin.Links = append(twin.Nodes, api.Inode{}), append(twin.Links, api.Link{})
	m := &twin.Nodes[1]
	m.Pieces, m.Xattrs = append(m.Pieces, api.Piece{}), append(m.Xattrs, api.Xattr{})
	if s.Nodes[:6][5].Kind != 9 || s.Links[:6][5].Name != "x" || n.Pieces[:4][3].Index != 9 || n.Xattrs[:4][3].Name != "x" {
		t.Error("the clone shares the room behind a list")
	}
	if got := facts.Clone(api.State{}); !facts.Same(got, api.State{}) {
		t.Errorf("Clone of nothing: %v", got)
	}
}
