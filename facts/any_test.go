package facts_test

import (
	"math"
	"math/rand"
	"slices"
	"strings"
	"testing"

	"crannog/api"
	"crannog/facts"
)

// has tells whether a vector knows an event, plain.
func has(v api.Vector, s api.Stamp) bool {
	return s.Time >= 1 && s.Time <= most && s.Who >= 0 && s.Who <= 7 && s.Time <= v[s.Who]
}

// good tells whether a vector may be one that another one knows.
func good(v, seen api.Vector) bool {
	for i, n := range v {
		if n < 0 || n > most || n > seen[i] {
			return false
		}
	}
	return true
}

func isName(s string) bool {
	return s != "" && s != "." && s != ".." && len(s) <= 16 && strings.IndexByte(s, '/') < 0 && strings.IndexByte(s, 0) < 0
}

// behind tells whether an Id stands behind another one.
func behind(a, b api.Stamp) bool {
	return b.Time > a.Time || b.Time == a.Time && b.Who > a.Who
}

// mayNode tells whether an inode may be, by the document's words.
func mayNode(s api.State, i int) bool {
	n := s.Nodes[i]
	if i == 0 && (n.Id != root || n.Kind != 2) || i > 0 && (!has(s.Seen, n.Id) || !behind(s.Nodes[i-1].Id, n.Id)) {
		return false
	}
	if n.Kind < 1 || n.Kind > 3 || n.Kind != 3 && n.Text != "" || n.Kind == 3 && (n.Text == "" || len(n.Text) > 120) {
		return false
	}
	if !has(s.Seen, n.Attr.At) && (i > 0 || n.Attr.At != root) || n.Attr.Mode < 0 || n.Attr.Mode > 511 {
		return false
	}
	if n.Attr.Time < minTime || n.Attr.Time > maxTime || n.Attr.Time == 1<<63-1 {
		return false
	}
	if n.Kind == 1 && (!has(s.Seen, n.Size.At) || n.Size.N < 0 || n.Size.N > 1024) {
		return false
	}
	if n.Kind != 1 && (n.Size != api.Size{} || len(n.Pieces) > 0) {
		return false
	}
	for j, p := range n.Pieces {
		if p.Index < 0 || p.Index > 15 || j > 0 && p.Index <= n.Pieces[j-1].Index || len(p.Data) > 64 || !has(s.Seen, p.At) {
			return false
		}
	}
	for j, x := range n.Xattrs {
		if !isName(x.Name) || j > 0 && x.Name <= n.Xattrs[j-1].Name || len(x.Val) > 32 || x.Gone && x.Val != "" || !has(s.Seen, x.At) {
			return false
		}
	}
	return len(n.Xattrs) <= 32
}

// mayLink tells whether a link may be.
func mayLink(s api.State, i int) bool {
	k := s.Links[i]
	if !has(s.Seen, k.Id) || i > 0 && !behind(s.Links[i-1].Id, k.Id) || !has(s.Seen, k.At) {
		return false
	}
	if !isName(k.Name) || k.Parent == root && k.Name == ".lost" || k.Node == root {
		return false
	}
	leads, stands := false, false
	for _, n := range s.Nodes {
		leads = leads || n.Id == k.Node
		stands = stands || n.Id == k.Parent && n.Kind == 2
	}
	return leads && stands && has(k.Alive, k.Id) && good(k.Alive, s.Seen) && good(k.Dead, s.Seen)
}

// may is what Check tells, by the document's words, of no more inodes and links than may be.
func may(s api.State) bool {
	if !good(s.Seen, s.Seen) || len(s.Nodes) == 0 {
		return false
	}
	for i := range s.Links {
		if !mayLink(s, i) {
			return false
		}
	}
	for i, n := range s.Nodes {
		if !mayNode(s, i) {
			return false
		}
		links := 0
		for _, k := range s.Links {
			if k.Node == n.Id {
				links++
			}
		}
		if i > 0 && n.Kind == 2 && links != 1 {
			return false
		}
	}
	return true
}

// world makes random states, of which many may be.
type world struct{ *rand.Rand }

func (w world) oneOf(l ...string) string { return l[w.Intn(len(l))] }

func (w world) name() string {
	return w.oneOf("a", "b", "aa", "ab", "b0", "c", ".", ".lost", strings.Repeat("n", 16))
}

func (w world) seen() api.Vector {
	v := api.Vector{2, 2, 2}
	for i := range 4 {
		v[i] += w.Intn(5)
	}
	v[7] = most
	return v
}

// known is an event that is known.
func (w world) known(v api.Vector) api.Stamp {
	for {
		s := stamp(1+w.Intn(7), w.Intn(4))
		if w.Intn(9) == 0 {
			s = stamp(most-w.Intn(3), 7)
		}
		if has(v, s) {
			return s
		}
	}
}

func (w world) attr(v api.Vector) api.Attr {
	times := []uint64{minTime, 1 << 63, maxTime, 1<<63 + w.Uint64()>>12, minTime + w.Uint64()>>12}
	return api.Attr{At: w.known(v), Mode: w.Intn(512), Time: times[w.Intn(len(times))]}
}

func (w world) file(v api.Vector, n *api.Inode) {
	n.Size = api.Size{At: w.known(v), N: w.Intn(1025)}
	for i := range 16 {
		if w.Intn(5) == 0 {
			n.Pieces = append(n.Pieces, api.Piece{Index: i, At: w.known(v), Data: strings.Repeat("p", w.Intn(65))})
		}
	}
}

func (w world) xattrs(v api.Vector) []api.Xattr {
	var l []api.Xattr
	for range w.Intn(4) {
		x := api.Xattr{Name: w.name(), At: w.known(v)}
		if x.Gone = w.Intn(4) == 0; !x.Gone {
			x.Val = strings.Repeat("v", w.Intn(33))
		}
		l = append(l, x)
	}
	slices.SortFunc(l, func(a, b api.Xattr) int { return strings.Compare(a.Name, b.Name) })
	return slices.CompactFunc(l, func(a, b api.Xattr) bool { return a.Name == b.Name })
}

func (w world) inode(v api.Vector) api.Inode {
	n := api.Inode{Id: w.known(v), Kind: 1 + w.Intn(3), Attr: w.attr(v), Xattrs: w.xattrs(v)}
	switch n.Kind {
	case api.File:
		w.file(v, &n)
	case api.Sym:
		n.Text = strings.Repeat("t", 1+w.Intn(120))
	}
	return n
}

func (w world) link(s api.State, node int) api.Link {
	k := api.Link{Id: w.known(s.Seen), Node: s.Nodes[node].Id, At: w.known(s.Seen), Name: w.name()}
	if n := s.Nodes[w.Intn(len(s.Nodes))]; n.Kind == api.Dir {
		k.Parent = n.Id
	}
	k.Alive[k.Id.Who] = k.Id.Time
	for i := range k.Dead {
		if w.Intn(3) == 0 {
			k.Alive[i] = s.Seen[i]
		}
		k.Dead[i] = min(s.Seen[i], w.Intn(5))
	}
	return k
}

// order puts a list by its Ids, each once.
func order[T any](l []T, id func(T) api.Stamp) []T {
	slices.SortFunc(l, func(a, b T) int {
		switch {
		case behind(id(a), id(b)):
			return -1
		case behind(id(b), id(a)):
			return 1
		}
		return 0
	})
	return slices.CompactFunc(l, func(a, b T) bool { return id(a) == id(b) })
}

// state is one that may be, but for names and links now and then.
func (w world) state() api.State {
	s := api.State{Seen: w.seen()}
	s.Nodes = []api.Inode{{Kind: api.Dir, Attr: api.Attr{Mode: 493, Time: 1 << 63}, Xattrs: w.xattrs(s.Seen)}}
	for range w.Intn(6) {
		s.Nodes = append(s.Nodes, w.inode(s.Seen))
	}
	s.Nodes = order(s.Nodes, func(n api.Inode) api.Stamp { return n.Id })
	for i, n := range s.Nodes {
		if many := w.Intn(3); i > 0 && n.Kind != api.Dir {
			for range many {
				s.Links = append(s.Links, w.link(s, i))
			}
		} else if i > 0 {
			s.Links = append(s.Links, w.link(s, i))
		}
	}
	s.Links = order(s.Links, func(k api.Link) api.Stamp { return k.Id })
	return s
}

// wrong changes a state in one part.
func (w world) wrong(s *api.State) {
	n := &s.Nodes[w.Intn(len(s.Nodes))]
	at := &n.Attr.At
	switch w.Intn(14) {
	case 0:
		i := w.Intn(8)
		s.Seen[i] = []int{0, 1, s.Seen[i] - 1, most, most + 1, -1}[w.Intn(6)]
	case 1:
		at = &n.Id
	case 2:
		at = &n.Size.At
	case 3:
		n.Kind = w.Intn(5)
	case 4:
		n.Text = strings.Repeat("t", []int{0, 1, 120, 121}[w.Intn(4)])
	case 5:
		n.Attr.Mode, n.Size.N = w.Intn(514)-1, w.Intn(1027)-1
	case 6:
		n.Attr.Time = []uint64{0, minTime - 1, 1<<63 - 1, maxTime + 1, math.MaxUint64}[w.Intn(5)]
	case 7:
		n.Pieces = append(n.Pieces, api.Piece{Index: w.Intn(18) - 1, At: w.known(s.Seen), Data: strings.Repeat("p", 60+w.Intn(7))})
		at = &n.Pieces[w.Intn(len(n.Pieces))].At
	case 8:
		n.Xattrs = append(n.Xattrs, api.Xattr{Name: w.oneOf("c", "d", "", "/", "..", strings.Repeat("o", 17)), At: w.known(s.Seen), Val: strings.Repeat("v", 31+w.Intn(3))})
		at = &n.Xattrs[w.Intn(len(n.Xattrs))].At
	default:
		if len(s.Links) > 0 {
			at = w.wrongLink(&s.Links[w.Intn(len(s.Links))])
		}
	}
	if w.Intn(3) == 0 {
		*at = []api.Stamp{{}, stamp(0, 1), stamp(5, 0), stamp(7, 1), stamp(9, 2), stamp(1, 5), stamp(most, 7), stamp(most+1, 7), stamp(1, 8), stamp(1, -1)}[w.Intn(10)]
	}
}

// wrongLink changes a link in one part, and tells of a stamp of it that may be changed, too.
func (w world) wrongLink(k *api.Link) *api.Stamp {
	i := w.Intn(8)
	switch w.Intn(5) {
	case 0:
		k.Alive[i] = []int{-1, 0, 1, 3, most, most + 1}[w.Intn(6)]
	case 1:
		k.Dead[i] = []int{-1, 0, 1, 3, most, most + 1}[w.Intn(6)]
	case 2:
		k.Name = w.oneOf("", "..", ".lost", "a\x00", "/", strings.Repeat("o", 17), "fine")
	}
	return []*api.Stamp{&k.Id, &k.Node, &k.At, &k.Parent}[w.Intn(4)]
}

// rows tells that a state's entries are as those of one that may be.
func rows(t *testing.T, l []api.Entry) {
	t.Helper()
	last := ""
	for _, en := range l {
		if en.Key <= last || len(en.Key) > 64 || len(en.Val) > 300 {
			t.Errorf("key %q behind %q, value of %d", en.Key, last, len(en.Val))
		}
		last = en.Key
	}
}

// P10.2, P10.4 to P10.6: any states, held against the document's words
func TestAnyState(t *testing.T) {
	good, bad := 0, 0
	for seed := range 12000 {
		w := world{rand.New(rand.NewSource(int64(seed)))}
		s := w.state()
		for range w.Intn(3) {
			w.wrong(&s)
		}
		want := api.EFORM
		if may(s) {
			want = api.OK
		}
		if err := facts.Check(s); err != want {
			t.Fatalf("seed %d: Check %v, want %v: %v", seed, err, want, s)
		}
		twin := facts.Clone(s)
		l := facts.Entries(s)
		if !facts.Same(s, twin) {
			t.Fatalf("seed %d: Entries changed the state", seed)
		}
		got, err := facts.State(l)
		if want != api.OK {
			bad++
			if err == api.OK && (facts.Same(got, s) || facts.Check(got) != api.OK || !slices.Equal(facts.Entries(got), l)) {
				t.Fatalf("seed %d: State %v of %v", seed, got, s)
			}
			continue
		}
		good++
		rows(t, l)
		if err != api.OK || !facts.Same(got, s) {
			t.Fatalf("seed %d: State %v, %v of %v", seed, got, err, s)
		}
	}
	if good < 2000 || bad < 2000 {
		t.Errorf("%d that may be, %d that may not", good, bad)
	}
}

// P10.6: the greatest that may be
func TestGreatest(t *testing.T) {
	s := made()
	l := facts.Entries(s)
	rows(t, l)
	longest := 0
	for _, en := range l {
		longest = max(longest, len(en.Val))
	}
	if longest != 1+2+120+7+2+8+7+2 {
		t.Errorf("the longest value has %d bytes", longest)
	}
}

// DOC, From arguments alone: the same again and again
func TestAgain(t *testing.T) {
	for seed := range 50 {
		s := world{rand.New(rand.NewSource(int64(seed)))}.state()
		l := facts.Entries(s)
		for range 20 {
			if again := facts.Entries(facts.Clone(s)); !slices.Equal(again, l) {
				t.Fatalf("seed %d: %q, then %q", seed, l, again)
			}
		}
	}
}
