package diff_test

import (
	"encoding/binary"
	"maps"
	"math"
	"math/rand"
	"slices"
	"strconv"
	"strings"
	"testing"

	"crannog/api"
	"crannog/dev"
	"crannog/diff"
	"crannog/store"
	"crannog/tree"
)

// number, text and upper are forms in bytes, written once more from the document.
func number(n, width int) string {
	return string(binary.BigEndian.AppendUint64(nil, uint64(n))[8-width:])
}

func text(s string) string { return number(len(s), 2) + s }

func upper(level int, keys ...string) string {
	b := number(level, 1) + number(len(keys), 1)
	for _, k := range keys {
		b += text(k)
	}
	return b
}

func want(t *testing.T, what string, got, want api.Errno) {
	t.Helper()
	if got != want {
		t.Errorf("%s: %v, want %v", what, got, want)
	}
}

// made is a store upon a device of so many blocks.
func made(t *testing.T, n int) (*dev.Dev, *store.Store) {
	t.Helper()
	d, err := dev.New(n)
	if err != api.OK {
		t.Fatal(err)
	}
	s, err := store.Format(d, "")
	if err != api.OK {
		t.Fatal(err)
	}
	return d, s
}

// block is one of the store, made by hand.
func block(t *testing.T, s *store.Store, data string, kids ...int) int {
	t.Helper()
	id, err := s.Put(kids, data)
	if err != api.OK {
		t.Fatal(err)
	}
	return id
}

func set(key, val string) api.Change { return api.Change{Key: key, Val: val} }

func gone(key string) api.Change { return api.Change{Key: key, Gone: true} }

// numbered is a change for each of so many keys that rise.
func numbered(n int, val string) []api.Change {
	var l []api.Change
	for i := range n {
		l = append(l, set("k"+strconv.Itoa(1000+i), val))
	}
	return l
}

// apply is a tree with changes, held.
func apply(t *testing.T, s *store.Store, root int, l ...api.Change) int {
	t.Helper()
	next, err := diff.Apply(s, root, l)
	if err != api.OK {
		t.Fatalf("Apply(%d): %v", root, err)
	}
	return next
}

// row is a tree's entries.
func row(t *testing.T, s *store.Store, root int) []api.Entry {
	t.Helper()
	if _, err := tree.Check(s, root); err != api.OK {
		t.Errorf("Check(%d): %v", root, err)
	}
	l, err := tree.Range(s, root, "", "", math.MaxInt)
	if err != api.OK {
		t.Errorf("Range(%d): %v", root, err)
	}
	return l
}

// below is all blocks of a tree.
func below(t *testing.T, s *store.Store, root int) map[int]struct{} {
	t.Helper()
	all := map[int]struct{}{}
	for todo := []int{root}; len(todo) > 0; todo = todo[1:] {
		if todo[0] == 0 {
			continue
		}
		all[todo[0]] = struct{}{}
		_, kids, err := tree.Open(s, todo[0])
		want(t, "Open", err, api.OK)
		for _, kid := range kids {
			todo = append(todo, kid.Id)
		}
	}
	return all
}

// leads tells that from one tree to another one a row of changes leads, and how many blocks were opened for it: just those that one of both has.
func leads(t *testing.T, s *store.Store, a, b int, l ...api.Change) {
	t.Helper()
	opened := 0
	x, y := below(t, s, a), below(t, s, b)
	for id := range x {
		if _, ok := y[id]; !ok {
			opened++
		}
	}
	for id := range y {
		if _, ok := x[id]; !ok {
			opened++
		}
	}
	if got, n, err := diff.Trees(s, a, b); !slices.Equal(got, l) || n != opened || err != api.OK {
		t.Errorf("Trees(%d, %d): %v, %d, %v, want %v, %d", a, b, got, n, err, l, opened)
	}
}

// P8.1: the document's example
func TestExample(t *testing.T) {
	_, s := made(t, 40)
	a := apply(t, s, 0, set("a", "1"), set("b", "2"))
	b := apply(t, s, 0, set("b", "3"), set("c", "4"))
	leads(t, s, a, b, gone("a"), set("b", "3"), set("c", "4"))
	leads(t, s, b, a, set("a", "1"), set("b", "2"), gone("c"))
	leads(t, s, 0, a, set("a", "1"), set("b", "2"))
	leads(t, s, a, 0, gone("a"), gone("b"))
	leads(t, s, a, a)
	leads(t, s, 0, 0)
	// Alike in two blocks: both are opened, nothing leads.
	leads(t, s, a, apply(t, s, 0, set("b", "2"), set("a", "1")))
	// A value that is empty is one.
	c := apply(t, s, a, set("b", ""))
	leads(t, s, a, c, set("b", ""))
	leads(t, s, 0, c, set("a", "1"), set("b", ""))
}

// P8.1
func TestLists(t *testing.T) {
	e := func(kv ...string) []api.Entry {
		var l []api.Entry
		for i := 0; i < len(kv); i += 2 {
			l = append(l, api.Entry{Key: kv[i], Val: kv[i+1]})
		}
		return l
	}
	for _, c := range []struct {
		a, b []api.Entry
		l    []api.Change
	}{
		{nil, nil, nil},
		{e(), e("a", ""), []api.Change{set("a", "")}},
		{e("a", "1"), nil, []api.Change{gone("a")}},
		{e("a", "1"), e("a", "1"), nil},
		{e("a", "1"), e("a", ""), []api.Change{set("a", "")}},
		{e("a", "", "c", "1"), e("b", "2", "d", ""), []api.Change{gone("a"), set("b", "2"), gone("c"), set("d", "")}},
		{e("b", "2", "d", ""), e("a", "", "c", "1"), []api.Change{set("a", ""), gone("b"), set("c", "1"), gone("d")}},
		{e("a", "1", "b", "2", "c", "3"), e("a", "1", "b", "x", "c", "3"), []api.Change{set("b", "x")}},
		{e("a", "1", "b", "2", "c", "3"), e("b", "2"), []api.Change{gone("a"), gone("c")}},
		{e("b", "2"), e("a", "1", "b", "2", "c", "3"), []api.Change{set("a", "1"), set("c", "3")}},
		{e("a", "1", "\xff", "2"), e("a\x00", "1", "\xff", "3"), []api.Change{gone("a"), set("a\x00", "1"), set("\xff", "3")}},
	} {
		x, y := slices.Clone(c.a), slices.Clone(c.b)
		if l := diff.Lists(x, y); !slices.Equal(l, c.l) {
			t.Errorf("Lists(%v, %v): %v, want %v", c.a, c.b, l, c.l)
		}
		if !slices.Equal(x, c.a) || !slices.Equal(y, c.b) {
			t.Errorf("Lists changed %v, %v", c.a, c.b)
		}
	}
	// Rows that do not rise: it ends, whatever comes.
	diff.Lists(e("b", "", "a", "", "a", "", "", ""), e("c", "", "c", "", "a", "1", "", "2"))
	diff.Lists(e("c", "", "c", "", "a", "1"), e("b", "", "a", "", "a", ""))
}

// P8.1: errors
func TestTreesErrors(t *testing.T) {
	d, s := made(t, 200)
	good := apply(t, s, 0, numbered(30, "")...)
	leaf := apply(t, s, 0, set("a", ""))
	bad := block(t, s, "none")
	under := block(t, s, upper(1, "a", "b"), leaf, bad)
	mixed := block(t, s, upper(1, "a", "b"), leaf, good)
	low := block(t, s, upper(3, "a", "b"), leaf, leaf)
	fails := func(what string, s *store.Store, a, b int, e api.Errno) {
		t.Helper()
		for _, pair := range [][]int{{a, b}, {b, a}} {
			if l, n, err := diff.Trees(s, pair[0], pair[1]); l != nil || n != 0 || err != e {
				t.Errorf("%s: %v, %d, %v, want %v", what, l, n, err, e)
			}
		}
	}
	for _, root := range []int{0, leaf, good} {
		fails("no node", s, root, bad, api.EIO)
		fails("no node below", s, root, under, api.EIO)
		fails("a kid too high", s, root, mixed, api.EIO)
		fails("a kid too low", s, root, low, api.EIO)
		for _, id := range []int{math.MinInt, -1, 1, 150, 200, math.MaxInt} {
			fails("not there", s, root, id, api.EINVAL)
		}
		if root != 0 {
			fails("nil", nil, root, 0, api.ENIL)
			fails("plain", &store.Store{}, root, 0, api.ENIL)
		}
	}
	if _, _, err := diff.Trees(s, bad, 150); err != api.EIO {
		t.Errorf("two errors: %v", err)
	}
	if _, _, err := diff.Trees(s, 150, bad); err != api.EINVAL {
		t.Errorf("two errors: %v", err)
	}
	want(t, "Crash", d.Crash(), api.OK)
	fails("no power", s, good, leaf, api.EIO)
	if l, n, err := diff.Trees(s, good, good); l != nil || n != 0 || err != api.OK {
		t.Errorf("a tree and itself: %v, %d, %v", l, n, err)
	}
}

// P8.1: it ends, whatever the blocks are
func TestTreesEnds(t *testing.T) {
	_, s := made(t, 200)
	var tops []int
	for range 2 {
		id := apply(t, s, 0, set("a", ""))
		for level := 1; level <= 20; level++ {
			id = block(t, s, upper(level, "a", "b", "c", "d", "e", "f", "g", "h"), slices.Repeat([]int{id}, 8)...)
		}
		tops = append(tops, id)
	}
	for _, pair := range [][]int{{tops[0], tops[1]}, {0, tops[0]}, {tops[1], 0}} {
		if _, _, err := diff.Trees(s, pair[0], pair[1]); err != api.OK {
			t.Errorf("Trees: %v", err)
		}
	}
}

// P8.5: past what is shared, even if that can't be read any more
func TestShared(t *testing.T) {
	d, s := made(t, 600)
	a := apply(t, s, 0, numbered(300, "old")...)
	for _, l := range [][]api.Change{
		{set("k1150", "new")},
		{gone("k1000"), set("k1299", "new")},
		{set("k1000", "new"), set("k1150\x00", "more"), gone("k1222")},
		numbered(20, "new"),
		{set("a", "")},
	} {
		b := apply(t, s, a, l...)
		leads(t, s, a, b, l...)
		x, y := below(t, s, a), below(t, s, b)
		was := map[int]string{}
		for id := range x {
			if _, ok := y[id]; ok {
				was[id], _ = d.Read(id)
				want(t, "Write", d.Write(id, "gone"), api.OK)
			}
		}
		if len(was) < len(x)/2 {
			t.Errorf("shared: %d of %d", len(was), len(x))
		}
		if got, _, err := diff.Trees(s, a, b); !slices.Equal(got, l) || err != api.OK {
			t.Errorf("Trees past bad blocks: %v, %v, want %v", got, err, l)
		}
		for id, bytes := range was {
			want(t, "Write", d.Write(id, bytes), api.OK)
		}
		want(t, "Drop", s.Drop(b), api.OK)
	}
}

// P8.1, P8.5: trees of unlike heights, of which one may be a part of the other
func TestHeights(t *testing.T) {
	d, s := made(t, 600)
	all := numbered(300, "v")
	a := apply(t, s, 0, all...)
	part := a
	for {
		_, kids, _ := tree.Open(s, part)
		if len(kids) == 0 {
			break
		}
		part = kids[len(kids)/2].Id
		var back, there []api.Change
		in := row(t, s, part)
		for _, c := range all {
			if !slices.Contains(in, api.Entry{Key: c.Key, Val: c.Val}) {
				there = append(there, gone(c.Key))
				back = append(back, c)
			}
		}
		leads(t, s, a, part, there...)
		leads(t, s, part, a, back...)
		other := apply(t, s, part, set("k1", "new"))
		leads(t, s, part, other, set("k1", "new"))
		leads(t, s, a, other, append([]api.Change{set("k1", "new")}, there...)...)
		want(t, "Drop", s.Drop(other), api.OK)
	}
	// A root that grew, or shrank, by a level.
	small := apply(t, s, 0, all[:8]...)
	big := apply(t, s, small, all[8])
	leads(t, s, small, big, all[8])
	leads(t, s, big, small, gone(all[8].Key))
	if _, n, _ := diff.Trees(s, small, big); n != 4 {
		t.Errorf("opened: %d", n)
	}
	want(t, "Crash", d.Crash(), api.OK)
}

// P8.2
func TestApply(t *testing.T) {
	_, s := made(t, 300)
	a := apply(t, s, 0, numbered(50, "old")...)
	if _, held, _ := s.Refs(a); held != 1 {
		t.Errorf("held: %d", held)
	}
	before := row(t, s, a)
	b := apply(t, s, a, set("k1000", "new"), gone("k1001"), set("k1000", "newer"), set("x", "1"), gone("x"), gone("y"), set("k1001", "again"))
	leads(t, s, a, b, set("k1000", "newer"), set("k1001", "again"))
	if !slices.Equal(row(t, s, a), before) {
		t.Error("the tree that was handed in has changed")
	}
	// All that there is hangs on both.
	all := below(t, s, a)
	maps.Copy(all, below(t, s, b))
	if n := len(s.Live()); n != len(all) || s.Sweep() != 0 {
		t.Errorf("there: %d, want %d", n, len(all))
	}
	for _, root := range []int{a, b} {
		if named, held, ok := s.Refs(root); named != 0 || held != 1 || !ok {
			t.Errorf("Refs(%d): %d, %d, %v", root, named, held, ok)
		}
	}
	// Nothing to do, and nothing done: the same tree, held once more.
	for n, l := range [][]api.Change{nil, {}, {gone("x")}, {gone("x"), gone("y"), gone("z")}} {
		if got := apply(t, s, b, l...); got != b {
			t.Errorf("Apply(%v): %d, want %d", l, got, b)
		}
		if _, held, _ := s.Refs(b); held != n+2 {
			t.Errorf("held: %d, want %d", held, n+2)
		}
	}
	// All gone.
	var l []api.Change
	for _, e := range row(t, s, a) {
		l = append(l, gone(e.Key))
	}
	live := s.Live()
	if root := apply(t, s, a, l...); root != 0 || !slices.Equal(s.Live(), live) {
		t.Errorf("all gone: %d, there: %d, were %d", root, len(s.Live()), len(live))
	}
	if root := apply(t, s, a, append(l, set("n", "new"))...); !slices.Equal(row(t, s, root), []api.Entry{{Key: "n", Val: "new"}}) || len(s.Live()) != len(live)+1 {
		t.Errorf("all gone, and one more: %v", row(t, s, root))
	}
	for _, l := range [][]api.Change{nil, {gone("x")}, {set("x", ""), gone("x")}} {
		if root := apply(t, s, 0, l...); root != 0 {
			t.Errorf("Apply(%v) of none: %d", l, root)
		}
	}
	// What is Gone has no value; one that it has is passed over.
	if root := apply(t, s, a, api.Change{Key: "k1000", Val: strings.Repeat("v", 999), Gone: true}); root == a {
		t.Error("nothing is gone")
	}
}

// P8.2: a root that nobody holds stays, and so do other loose blocks
func TestApplyLoose(t *testing.T) {
	_, s := made(t, 100)
	a, err := tree.Put(s, 0, "a", "1")
	want(t, "Put", err, api.OK)
	loose := block(t, s, "loose")
	b := apply(t, s, a, gone("x"), set("b", "2"), gone("y"), set("c", "3"), gone("b"))
	leads(t, s, a, b, set("c", "3"))
	if named, held, ok := s.Refs(a); named != 0 || held != 0 || !ok {
		t.Errorf("Refs: %d, %d, %v", named, held, ok)
	}
	if !slices.Equal(s.Live(), slices.Sorted(slices.Values([]int{a, b, loose}))) {
		t.Errorf("there: %v", s.Live())
	}
	if got := apply(t, s, a, gone("x"), gone("y")); got != a {
		t.Errorf("Apply: %d", got)
	}
	if _, held, _ := s.Refs(a); held != 1 {
		t.Errorf("held: %d", held)
	}
}

// P8.2: the first error; nothing is held more, and nothing loose is left
func TestApplyErrors(t *testing.T) {
	d, s := made(t, 100)
	a := apply(t, s, 0, numbered(50, "old")...)
	live, bad := s.Live(), 0
	fails := func(what string, s *store.Store, root int, e api.Errno, l ...api.Change) {
		t.Helper()
		if id, err := diff.Apply(s, root, l); id != 0 || err != e {
			t.Errorf("%s: %d, %v, want %v", what, id, err, e)
		}
	}
	long := strings.Repeat("k", 65)
	for _, c := range []api.Change{set("", ""), gone(""), set(long, ""), gone(long), set("k", strings.Repeat("v", 301))} {
		bad = block(t, s, "none")
		fails("a change that can't be", s, a, api.EINVAL, set("k1000", "new"), gone("k1001"), c, set("x", ""))
		if !slices.Equal(s.Live(), live) {
			t.Errorf("there: %v, want %v", s.Live(), live)
		}
		if _, held, _ := s.Refs(a); held != 1 {
			t.Errorf("held: %d", held)
		}
	}
	for _, id := range []int{math.MinInt, -1, 1, bad, 100, math.MaxInt} {
		fails("not there", s, id, api.EINVAL)
		fails("not there", s, id, api.EINVAL, set("a", ""))
		fails("not there", s, id, api.EINVAL, gone("a"))
	}
	for _, c := range []api.Change{set("a", ""), gone("a")} {
		bad = block(t, s, "none")
		fails("no node", s, bad, api.EIO, c)
		if !slices.Equal(s.Live(), live) {
			t.Errorf("there: %v, want %v", s.Live(), live)
		}
	}
	for _, none := range []*store.Store{nil, {}} {
		fails("no store", none, a, api.ENIL)
		fails("no store", none, a, api.ENIL, set("a", ""))
		fails("no store", none, 0, api.ENIL, set("a", ""))
		fails("no store", none, 0, api.EINVAL, set("", ""), set("a", ""))
		if id, err := diff.Apply(none, 0, []api.Change{gone("a")}); id != 0 || err != api.OK {
			t.Errorf("no store, nothing to do: %d, %v", id, err)
		}
	}
	// No room, at whichever change.
	fails("no room", s, a, api.ENOSPC, append(numbered(50, "new"), numbered(900, "more")...)...)
	if !slices.Equal(s.Live(), live) {
		t.Errorf("there: %v, want %v", s.Live(), live)
	}
	// The power goes, at whichever act.
	for n := range 40 {
		want(t, "Fuse", d.Fuse(n), api.OK)
		fails("power", s, a, api.EIO, numbered(50, "new")...)
		if !slices.Equal(s.Live(), live) {
			t.Errorf("there: %v, want %v", s.Live(), live)
		}
		want(t, "Crash", d.Crash(d.Dirty()...), api.OK)
		want(t, "Start", d.Start(), api.OK)
	}
	leads(t, s, 0, a, numbered(50, "old")...)
}

// P8.2
func TestCost(t *testing.T) {
	for _, c := range [][3]int{
		{2, 1, 26}, {0, 5, 0}, {1, 0, 11}, {1, -1, 11}, {3, 30, 213}, {3, 31, 213}, {-1, 3, 0},
		{1 << 20, 0, 11 << 20}, {1<<20 + 1, 0, 11 << 20}, {math.MaxInt, math.MaxInt, 71 << 20}, {math.MinInt, math.MinInt, 0},
	} {
		if got := diff.Cost(c[0], c[1]); got != c[2] {
			t.Errorf("Cost(%d, %d): %d, want %d", c[0], c[1], got, c[2])
		}
	}
}

// P8.2: where so many blocks are free, there is room
func TestRoom(t *testing.T) {
	r := rand.New(rand.NewSource(3))
	for range 60 {
		_, s := made(t, 1500)
		a := apply(t, s, 0, numbered(r.Intn(60), "old")...)
		var l []api.Change
		for range 1 + r.Intn(30) {
			c := set("k"+strconv.Itoa(1000+r.Intn(80)), "new")
			if r.Intn(2) == 0 {
				c = gone(c.Key)
			}
			l = append(l, c)
		}
		levels, _ := tree.Height(s, a)
		for s.Free() > diff.Cost(len(l), levels) {
			want(t, "Hold", s.Hold(block(t, s, "full")), api.OK)
		}
		apply(t, s, a, l...)
	}
}

// P8.3
func TestSorted(t *testing.T) {
	k64, v300 := strings.Repeat("k", 64), strings.Repeat("v", 300)
	for _, c := range []struct {
		l  []api.Change
		ok bool
	}{
		{nil, true},
		{[]api.Change{}, true},
		{[]api.Change{set("a", "")}, true},
		{[]api.Change{gone("a"), set("a\x00", "1"), gone("b"), set("\xff", "")}, true},
		{[]api.Change{set(k64, v300)}, true},
		{[]api.Change{set("", "")}, false},
		{[]api.Change{gone("")}, false},
		{[]api.Change{set(k64+"k", "")}, false},
		{[]api.Change{gone(k64 + "k")}, false},
		{[]api.Change{set("a", v300+"v")}, false},
		{[]api.Change{{Key: "a", Val: "v", Gone: true}}, false},
		{[]api.Change{set("a", ""), set("a", "")}, false},
		{[]api.Change{set("a", ""), gone("a")}, false},
		{[]api.Change{set("b", ""), set("a", "")}, false},
		{[]api.Change{set("a", ""), set("c", ""), set("b", ""), set("d", "")}, false},
		{[]api.Change{set("a", ""), set("b", ""), set("c", v300+"v")}, false},
	} {
		if ok := diff.Sorted(c.l); ok != c.ok {
			t.Errorf("Sorted(%v): %v", c.l, ok)
		}
		// What is put comes back, if it is Sorted; else it is refused.
		l, err := diff.Get(diff.Put(c.l))
		if c.ok && (!slices.Equal(l, c.l) || err != api.OK) || !c.ok && (l != nil || err != api.EFORM) {
			t.Errorf("Get(Put(%v)): %v, %v", c.l, l, err)
		}
	}
}

// P8.3: as bytes
func TestPut(t *testing.T) {
	v300 := strings.Repeat("v", 300)
	for _, c := range []struct {
		l []api.Change
		s string
	}{
		{nil, "\x00\x00\x00\x00"},
		{[]api.Change{set("a", "")}, "\x00\x00\x00\x01" + "\x00" + text("a") + text("")},
		{[]api.Change{gone("a"), set("bc", v300)}, "\x00\x00\x00\x02" + "\x01" + text("a") + text("") + "\x00" + text("bc") + text(v300)},
		// Of changes that are none, too.
		{[]api.Change{set("b", "1"), {Key: "a", Val: "x", Gone: true}, set("", "")}, "\x00\x00\x00\x03" + "\x00" + text("b") + text("1") + "\x01" + text("a") + text("x") + "\x00" + text("") + text("")},
	} {
		if s := diff.Put(c.l); s != c.s {
			t.Errorf("Put(%v): %q, want %q", c.l, s, c.s)
		}
	}
	many := numbered(1000, v300)
	s := diff.Put(many)
	if s[:4] != number(1000, 4) || len(s) != 4+1000*(1+2+5+2+300) {
		t.Errorf("many: %q, %d bytes", s[:4], len(s))
	}
	if l, err := diff.Get(s); !slices.Equal(l, many) || err != api.OK {
		t.Errorf("many: %d, %v", len(l), err)
	}
	// One number more, as the number of changes goes up to 2^32.
	if s := diff.Put(make([]api.Change, 70000)); s[:4] != number(70000, 4) {
		t.Errorf("many: %q", s[:4])
	}
}

// P8.3: bytes that are no changes
func TestGet(t *testing.T) {
	whole := diff.Put([]api.Change{gone("a"), set("bc", "val"), set("d", "")})
	for i := range len(whole) {
		if l, err := diff.Get(whole[:i]); l != nil || err != api.EFORM {
			t.Errorf("Get of %d bytes: %v, %v", i, l, err)
		}
	}
	one := func(gone int, key, val string) string { return number(gone, 1) + text(key) + text(val) }
	for name, s := range map[string]string{
		"nothing":          "",
		"bytes behind it":  whole + "\x00",
		"behind nothing":   number(0, 4) + "\x00",
		"one more":         number(4, 4) + whole[4:],
		"one less":         number(2, 4) + whole[4:],
		"far more":         number(1<<32-1, 4) + whole[4:],
		"gone is 2":        number(1, 4) + one(2, "a", ""),
		"gone is 255":      number(1, 4) + one(255, "a", ""),
		"gone, with value": number(1, 4) + one(1, "a", "v"),
		"no key":           number(1, 4) + one(0, "", "v"),
		"long key":         number(1, 4) + one(0, strings.Repeat("k", 65), "v"),
		"long value":       number(1, 4) + one(0, "k", strings.Repeat("v", 301)),
		"alike":            number(2, 4) + one(0, "a", "v") + one(0, "a", "v"),
		"fall":             number(2, 4) + one(0, "b", "v") + one(0, "a", "v"),
	} {
		if l, err := diff.Get(s); l != nil || err != api.EFORM {
			t.Errorf("%s: %v, %v", name, l, err)
		}
	}
	if l, err := diff.Get(number(0, 4)); len(l) != 0 || err != api.OK {
		t.Errorf("none: %v, %v", l, err)
	}
	if l, err := diff.Get(whole); !slices.Equal(l, []api.Change{gone("a"), set("bc", "val"), set("d", "")}) || err != api.OK {
		t.Errorf("Get: %v, %v", l, err)
	}
}

// P8.4, P8.5, P8.6, P8.7: any two trees, of which one came of the other, or not
func TestAnyTrees(t *testing.T) {
	for seed := range 60 {
		r := rand.New(rand.NewSource(int64(seed)))
		_, s := made(t, 2000)
		keys := 3 + r.Intn(200)
		any := func(n int) []api.Change {
			var l []api.Change
			for range n {
				c := set(strconv.Itoa(r.Intn(keys)), strings.Repeat("v", r.Intn(3)))
				if r.Intn(2) == 0 {
					c = gone(c.Key)
				}
				l = append(l, c)
			}
			return l
		}
		roots := []int{0, apply(t, s, 0, any(400)...)}
		for range 8 {
			roots = append(roots, apply(t, s, roots[r.Intn(len(roots))], any(1+r.Intn(20))...))
		}
		for range 30 {
			a, b := roots[r.Intn(len(roots))], roots[r.Intn(len(roots))]
			x, y := row(t, s, a), row(t, s, b)
			there, back := diff.Lists(x, y), diff.Lists(y, x)
			leads(t, s, a, b, there...)
			leads(t, s, b, a, back...)
			same := slices.EqualFunc(there, back, func(c, d api.Change) bool { return c.Key == d.Key })
			if !same || !diff.Sorted(there) || !diff.Sorted(back) {
				t.Errorf("there %v, back %v", there, back)
			}
			c := apply(t, s, a, there...)
			if !slices.Equal(row(t, s, c), y) {
				t.Errorf("with what leads there: %v, want %v", row(t, s, c), y)
			}
			if c != 0 {
				want(t, "Drop", s.Drop(c), api.OK)
			}
			if l, err := diff.Get(diff.Put(there)); !slices.Equal(l, there) || err != api.OK {
				t.Errorf("Get of Put: %v, %v, want %v", l, err, there)
			}
		}
		for _, root := range roots {
			if root != 0 {
				want(t, "Drop", s.Drop(root), api.OK)
			}
		}
		if s.Free() != 1998 {
			t.Errorf("free: %d", s.Free())
		}
		if t.Failed() {
			t.Fatalf("seed %d", seed)
		}
	}
}
