package join_test

import (
	"encoding/binary"
	"math/rand"
	"slices"
	"testing"

	"crannog/api"
	"crannog/facts"
	"crannog/join"
)

// What follows is the document's words once more: slow, and in another way.

// key is numbers as bytes that stand in order as they do, from the least one on.
func key(l ...int) string {
	b := ""
	for _, n := range l {
		b += string(binary.BigEndian.AppendUint64(nil, uint64(n)^1<<63))
	}
	return b
}

func stampKey(s api.Stamp) string { return key(s.Time, s.Who) }

func attrKey(a api.Attr) string {
	return stampKey(a.At) + key(a.Mode) + string(binary.BigEndian.AppendUint64(nil, a.Time))
}

func sizeKey(z api.Size) string { return stampKey(z.At) + key(z.N) }

func pieceKey(p api.Piece) string { return stampKey(p.At) + p.Data }

func xattrKey(x api.Xattr) string {
	if x.Gone {
		return stampKey(x.At) + "1" + x.Val
	}
	return stampKey(x.At) + "0" + x.Val
}

func placeKey(l api.Link) string { return stampKey(l.At) + stampKey(l.Parent) + l.Name }

// greatest is the one whose key is.
func greatest[T any](l []T, key func(T) string) T {
	best := l[0]
	for _, x := range l {
		if key(x) > key(best) {
			best = x
		}
	}
	return best
}

// groups are the items of a list by rising keys, in one those of one key.
func groups[T any](l []T, key func(T) string) [][]T {
	var keys []string
	for _, x := range l {
		keys = append(keys, key(x))
	}
	slices.Sort(keys)
	var out [][]T
	for _, k := range slices.Compact(keys) {
		var same []T
		for _, x := range l {
			if key(x) == k {
				same = append(same, x)
			}
		}
		out = append(out, same)
	}
	return out
}

func wantNode(l []api.Inode) api.Inode {
	n := api.Inode{Id: l[0].Id}
	n.Kind = greatest(l, func(n api.Inode) string { return key(n.Kind) }).Kind
	n.Text = greatest(l, func(n api.Inode) string { return n.Text }).Text
	n.Attr = greatest(l, func(n api.Inode) string { return attrKey(n.Attr) }).Attr
	n.Size = greatest(l, func(n api.Inode) string { return sizeKey(n.Size) }).Size
	var pieces []api.Piece
	var xattrs []api.Xattr
	for _, m := range l {
		pieces, xattrs = append(pieces, m.Pieces...), append(xattrs, m.Xattrs...)
	}
	for _, same := range groups(pieces, func(p api.Piece) string { return key(p.Index) }) {
		n.Pieces = append(n.Pieces, greatest(same, pieceKey))
	}
	for _, same := range groups(xattrs, func(x api.Xattr) string { return x.Name }) {
		n.Xattrs = append(n.Xattrs, greatest(same, xattrKey))
	}
	return n
}

func wantLink(l []api.Link) api.Link {
	k := greatest(l, placeKey)
	k.Node = greatest(l, func(l api.Link) string { return stampKey(l.Node) }).Node
	for _, m := range l {
		for i := range m.Alive {
			k.Alive[i], k.Dead[i] = max(k.Alive[i], m.Alive[i]), max(k.Dead[i], m.Dead[i])
		}
	}
	return k
}

func wantStates(a, b api.State) api.State {
	var s api.State
	for i := range s.Seen {
		s.Seen[i] = max(a.Seen[i], b.Seen[i])
	}
	for _, same := range groups(slices.Concat(a.Nodes, b.Nodes), func(n api.Inode) string { return stampKey(n.Id) }) {
		s.Nodes = append(s.Nodes, wantNode(same))
	}
	for _, same := range groups(slices.Concat(a.Links, b.Links), func(l api.Link) string { return stampKey(l.Id) }) {
		s.Links = append(s.Links, wantLink(same))
	}
	return s
}

// knows tells whether a vector has an event.
func knows(v api.Vector, s api.Stamp) bool {
	return s.Time >= 1 && s.Time <= most && s.Who >= 0 && s.Who <= 7 && v[s.Who] >= s.Time
}

func hasNode(s api.State, id api.Stamp) bool {
	return slices.ContainsFunc(s.Nodes, func(n api.Inode) bool { return n.Id == id })
}

func hasLink(s api.State, id api.Stamp) bool {
	return slices.ContainsFunc(s.Links, func(l api.Link) bool { return l.Id == id })
}

func wantMerge(a, b api.State) api.State {
	all := wantStates(a, b)
	s := api.State{Seen: all.Seen}
	for _, n := range all.Nodes {
		if !(knows(a.Seen, n.Id) && !hasNode(a, n.Id)) && !(knows(b.Seen, n.Id) && !hasNode(b, n.Id)) {
			s.Nodes = append(s.Nodes, n)
		}
	}
	for _, l := range all.Links {
		if !(knows(a.Seen, l.Id) && !hasLink(a, l.Id)) && !(knows(b.Seen, l.Id) && !hasLink(b, l.Id)) {
			s.Links = append(s.Links, l)
		}
	}
	return s
}

func alive(l api.Link) bool {
	for i, n := range l.Alive {
		if n > l.Dead[i] {
			return true
		}
	}
	return false
}

// within tells whether all of a vector is known by both others.
func within(v, seen, stable api.Vector) bool {
	for i, n := range v {
		if n > seen[i] || n > stable[i] {
			return false
		}
	}
	return true
}

// ups are the links that are up, by their places.
func ups(s api.State) map[int]bool {
	up := map[int]bool{}
	for i, l := range s.Links {
		up[i] = alive(l)
	}
	for changed := true; changed; {
		changed = false
		for i, l := range s.Links {
			home := -1
			for j, k := range s.Links {
				if k.Node == l.Parent {
					home = j
				}
			}
			if up[i] && home >= 0 && !up[home] {
				up[home], changed = true, true
			}
		}
	}
	return up
}

// stayers are the links that stay, by their places.
func stayers(s api.State, stable api.Vector) map[int]bool {
	stays, up, all := map[int]bool{}, ups(s), false
	known := func(e api.Stamp) bool { return knows(s.Seen, e) && knows(stable, e) }
	for _, l := range s.Links {
		all = all || l.At != l.Id && !known(l.At)
	}
	for i, l := range s.Links {
		stays[i] = all || up[i] || !within(l.Alive, s.Seen, stable) || !within(l.Dead, s.Seen, stable) || !known(l.At)
	}
	for changed := true; changed; {
		changed = false
		for i, l := range s.Links {
			for j, k := range s.Links {
				if stays[j] && k.Parent == l.Node && !stays[i] {
					stays[i], changed = true, true
				}
			}
		}
	}
	return stays
}

func wantPrune(s api.State, stable api.Vector) api.State {
	stays, p := stayers(s, stable), api.State{Seen: s.Seen}
	for i, l := range s.Links {
		if stays[i] {
			p.Links = append(p.Links, l)
		}
	}
	for _, n := range s.Nodes {
		leads := slices.ContainsFunc(p.Links, func(l api.Link) bool { return l.Node == n.Id })
		if leads || !knows(s.Seen, n.Id) || !knows(stable, n.Id) {
			p.Nodes = append(p.Nodes, n)
		}
	}
	return p
}

// world makes random states, of which most may not be.
type world struct{ *rand.Rand }

func (w world) stamp() api.Stamp {
	if w.Intn(20) == 0 {
		return []api.Stamp{root, stamp(0, 1), stamp(-1, 0), stamp(most, 1), stamp(most+1, 1), stamp(2, 8), stamp(3, -1)}[w.Intn(7)]
	}
	return stamp(1+w.Intn(4), w.Intn(2))
}

func (w world) text() string { return texts[w.Intn(len(texts))] }

func (w world) vector() api.Vector {
	v := api.Vector{w.Intn(5), w.Intn(5)}
	if w.Intn(9) == 0 {
		v[7] = w.Intn(3) - 1
	}
	return v
}

func (w world) node() api.Inode {
	n := api.Inode{Id: w.stamp(), Kind: w.Intn(4)}
	if w.Intn(3) == 0 {
		n.Text = w.text()
	}
	n.Attr = api.Attr{At: w.stamp(), Mode: w.Intn(3), Time: uint64(w.Intn(3)) << 62}
	n.Size = api.Size{At: w.stamp(), N: w.Intn(3)}
	for range w.Intn(4) {
		n.Pieces = append(n.Pieces, api.Piece{Index: w.Intn(3), At: w.stamp(), Data: w.text()})
	}
	for range w.Intn(4) {
		n.Xattrs = append(n.Xattrs, api.Xattr{Name: w.text(), At: w.stamp(), Val: w.text(), Gone: w.Intn(2) == 0})
	}
	return n
}

func (w world) link() api.Link {
	l := api.Link{Id: w.stamp(), Node: w.stamp(), Parent: w.stamp(), Name: w.text(), Alive: w.vector(), Dead: w.vector()}
	if l.At = l.Id; w.Intn(6) == 0 {
		l.At = w.stamp()
	}
	if w.Intn(2) == 0 {
		for i, n := range l.Alive {
			l.Dead[i] = max(l.Dead[i], n)
		}
	}
	return l
}

func (w world) state() api.State {
	s := api.State{Seen: w.vector()}
	for range w.Intn(6) {
		s.Nodes = append(s.Nodes, w.node())
	}
	for range w.Intn(7) {
		s.Links = append(s.Links, w.link())
	}
	return s
}

// P11.1 to P11.3: any states, held against the document's words.
func TestAnyStates(t *testing.T) {
	pruned, some := 0, 0
	for seed := range 6000 {
		w := world{rand.New(rand.NewSource(int64(seed)))}
		a, b := w.state(), w.state()
		stable := w.vector()
		if w.Intn(2) == 0 {
			a.Seen, stable = api.Vector{4, 4, 0, 0, 0, 0, 0, 1}, api.Vector{3 + w.Intn(2), 3 + w.Intn(2), 0, 0, 0, 0, 0, 1}
		}
		c, d := facts.Clone(a), facts.Clone(b)
		is(t, "States", join.States(a, b), wantStates(a, b))
		is(t, "Merge", join.Merge(a, b), wantMerge(a, b))
		p := join.Prune(a, stable)
		is(t, "Prune", p, wantPrune(a, stable))
		is(t, "changed", a, c)
		is(t, "changed, too", b, d)
		for _, l := range a.Links {
			if join.Alive(l) != alive(l) {
				t.Errorf("Alive: %v", l)
			}
		}
		if len(p.Links) < len(a.Links) {
			pruned++
			if len(p.Links) > 0 {
				some++
			}
		}
		if t.Failed() {
			t.Fatalf("seed %d", seed)
		}
	}
	if pruned < 500 || some < 200 {
		t.Errorf("%d were pruned, %d in part", pruned, some)
	}
}

// P11.4: in any order, as often as one likes, in any groups.
func TestOne(t *testing.T) {
	for seed := range 3000 {
		w := world{rand.New(rand.NewSource(int64(seed)))}
		a, b, c := w.state(), w.state(), w.state()
		ab, bc := join.States(a, b), join.States(b, c)
		is(t, "order", join.States(b, a), ab)
		is(t, "groups", join.States(ab, c), join.States(a, bc))
		is(t, "repetition", join.States(ab, ab), ab)
		is(t, "one of both once more", join.States(a, ab), ab)
		is(t, "the other one once more", join.States(ab, b), ab)
		is(t, "with nothing of one's own", join.States(ab, api.State{Seen: ab.Seen}), ab)
		is(t, "merged with itself", join.Merge(ab, ab), ab)
		is(t, "merged, in order", join.Merge(a, b), join.Merge(b, a))
		if t.Failed() {
			t.Fatalf("seed %d", seed)
		}
	}
}

// P11.5: all of both is there, and nobody's register stands behind what is there.
func TestAll(t *testing.T) {
	for seed := range 3000 {
		w := world{rand.New(rand.NewSource(int64(seed)))}
		a, b := w.state(), w.state()
		s := join.States(a, b)
		for _, n := range slices.Concat(a.Nodes, b.Nodes) {
			m, ok := facts.Node(s, n.Id)
			if !ok || m.Kind < n.Kind || m.Text < n.Text || attrKey(m.Attr) < attrKey(n.Attr) || sizeKey(m.Size) < sizeKey(n.Size) {
				t.Fatalf("seed %d: %v of %v", seed, m, n)
			}
			for _, p := range n.Pieces {
				if !slices.ContainsFunc(m.Pieces, func(q api.Piece) bool { return q.Index == p.Index && pieceKey(q) >= pieceKey(p) }) {
					t.Fatalf("seed %d: %v of %v", seed, m, p)
				}
			}
			for _, x := range n.Xattrs {
				if !slices.ContainsFunc(m.Xattrs, func(y api.Xattr) bool { return y.Name == x.Name && xattrKey(y) >= xattrKey(x) }) {
					t.Fatalf("seed %d: %v of %v", seed, m, x)
				}
			}
		}
		for _, l := range slices.Concat(a.Links, b.Links) {
			k := s.Links[slices.IndexFunc(s.Links, func(k api.Link) bool { return k.Id == l.Id })]
			if placeKey(k) < placeKey(l) || stampKey(k.Node) < stampKey(l.Node) || !within(l.Alive, k.Alive, k.Alive) || !within(l.Dead, k.Dead, k.Dead) {
				t.Fatalf("seed %d: %v of %v", seed, k, l)
			}
		}
	}
}

// P11.6: nothing that is up goes, nothing that is not known by stable.
func TestPruneTakes(t *testing.T) {
	for seed := range 3000 {
		w := world{rand.New(rand.NewSource(int64(seed)))}
		s := join.States(w.state(), w.state())
		s.Seen, s.Links = api.Vector{4, 4, 0, 0, 0, 0, 0, 1}, slices.DeleteFunc(s.Links, func(l api.Link) bool { return !knows(l.Alive, l.Id) })
		stable := w.vector()
		p, up := join.Prune(s, stable), ups(s)
		for i, l := range s.Links {
			if (up[i] || !knows(stable, l.Id) || !knows(stable, l.At)) && !hasLink(p, l.Id) {
				t.Fatalf("seed %d: %v is gone, of %v by %v", seed, l, s, stable)
			}
		}
		for _, n := range s.Nodes {
			if !knows(stable, n.Id) && !hasNode(p, n.Id) {
				t.Fatalf("seed %d: %v is gone, by %v", seed, n, stable)
			}
		}
		is(t, "merged with what was pruned", join.Merge(s, p), p)
		is(t, "what was pruned, merged", join.Merge(p, s), p)
	}
}

// DOC, From arguments alone: the same again and again.
func TestAgain(t *testing.T) {
	for seed := range 40 {
		w := world{rand.New(rand.NewSource(int64(seed)))}
		a, b, stable := w.state(), w.state(), w.vector()
		s, m, p := join.States(a, b), join.Merge(a, b), join.Prune(a, stable)
		for range 20 {
			is(t, "States", join.States(facts.Clone(a), facts.Clone(b)), s)
			is(t, "Merge", join.Merge(facts.Clone(a), facts.Clone(b)), m)
			is(t, "Prune", join.Prune(facts.Clone(a), stable), p)
		}
	}
}
