package syncd_test

import (
	"math"
	"slices"
	"strings"
	"testing"

	"crannog/api"
	"crannog/dev"
	"crannog/diff"
	"crannog/facts"
	"crannog/fs"
	"crannog/join"
	"crannog/msg"
	"crannog/query"
	"crannog/stream"
	"crannog/syncd"
	"crannog/vector"
)

// side is a replica.
type side struct {
	d *dev.Dev
	f *fs.Fs
	s *syncd.Sync
}

func want(t *testing.T, what string, got, want api.Errno) {
	t.Helper()
	if got != want {
		t.Errorf("%s: %v, want %v", what, got, want)
	}
}

func is[T comparable](t *testing.T, what string, got, want T) {
	t.Helper()
	if got != want {
		t.Errorf("%s: %v, want %v", what, got, want)
	}
}

// began is a new replica among so many.
func began(t *testing.T, who, reps, vols, blocks int) *side {
	t.Helper()
	d, err := dev.New(blocks)
	if err != api.OK {
		t.Fatal(err)
	}
	f, err := fs.Format(d, who, vols)
	if err != api.OK {
		t.Fatal(err)
	}
	x := &side{d: d, f: f}
	x.part(t, reps)
	return x
}

// part has a replica begin its part anew.
func (x *side) part(t *testing.T, reps int) {
	t.Helper()
	var err api.Errno
	if x.s, err = syncd.New(x.f, reps); err != api.OK || x.s == nil {
		t.Fatal(err)
	}
}

// all is so many replicas.
func all(t *testing.T, reps, vols, blocks int) []*side {
	t.Helper()
	var l []*side
	for i := range reps {
		l = append(l, began(t, i, reps, vols, blocks))
	}
	return l
}

func mkdir(path string) api.Call { return api.Call{Kind: api.CMkdir, Path: path} }

func write(path, data string) api.Call { return api.Call{Kind: api.CWrite, Path: path, Data: data} }

// do has calls done on a volume.
func (x *side) do(t *testing.T, vol int, l ...api.Call) {
	t.Helper()
	for _, c := range l {
		if ans, _ := x.f.Call(fs.Main(vol), c); ans.Err != api.OK {
			t.Fatal(c, ans.Err)
		}
	}
}

func (x *side) commit(t *testing.T) {
	t.Helper()
	want(t, "Commit", x.f.Commit(), api.OK)
}

// full has a volume have so many files of 1024 bytes, and keeps it.
func (x *side) full(t *testing.T, vol, many int) {
	t.Helper()
	for i := range many {
		path := "/f" + string(rune('a'+i))
		x.do(t, vol, api.Call{Kind: api.CCreate, Path: path}, write(path, strings.Repeat(path+"/", 256)))
	}
	x.commit(t)
}

func (x *side) state(t *testing.T, vol int) api.State {
	t.Helper()
	s, err := x.f.State(fs.Main(vol))
	if err != api.OK {
		t.Fatal(err)
	}
	return s
}

func (x *side) has(vol int, path string) bool {
	ans, _ := x.f.Call(fs.Main(vol), api.Call{Kind: api.CStat, Path: path})
	return ans.Err == api.OK
}

// kept is the tree of a volume that is kept, and what it knows.
func (x *side) kept(vol int) (int, api.Vector) {
	tree, seen, _ := x.f.Kept(fs.Main(vol))
	return tree, seen
}

func mark(boot, n int) api.Mark { return api.Mark{Boot: boot, N: n} }

// take has a message be taken with some answer.
func (x *side) take(t *testing.T, m api.Msg, e api.Errno, l ...api.Msg) {
	t.Helper()
	out, err := x.s.Take(m)
	if err != e || !slices.Equal(out, l) {
		t.Errorf("%s: %v, want %v", msg.Text(m), err, e)
		for _, o := range out {
			t.Log("   is", msg.Text(o))
		}
		for _, o := range l {
			t.Log("   should be", msg.Text(o))
		}
	}
	for _, o := range out {
		if msg.Check(o) != api.OK {
			t.Error("it may not be:", msg.Text(o))
		}
	}
}

// parts is those messages of a snapshot that are sent from one on: what leads from one tree to another one.
func (x *side) parts(t *testing.T, m api.Msg, from, a, b int) []api.Msg {
	t.Helper()
	changes, err := x.f.Diff(a, b)
	if err != api.OK {
		t.Fatal(err)
	}
	return cut(m, changes, from)
}

// cut is those messages of changes that are sent from one on.
func cut(m api.Msg, changes []api.Change, from int) []api.Msg {
	l := stream.Cut(changes)
	var out []api.Msg
	for _, i := range stream.Window(from, len(l)) {
		m.Kind, m.Index, m.Total, m.Data = api.MPart, i, len(l), l[i]
		out = append(out, m)
	}
	return out
}

// tell takes messages to whom they are for, and those that are said then, till there are none: the kinds of them all.
func tell(t *testing.T, l []*side, way []api.Msg) []int {
	t.Helper()
	var kinds []int
	for ; len(way) > 0; way = way[1:] {
		out, err := l[way[0].To].s.Take(way[0])
		if err != api.OK {
			t.Fatal(msg.Text(way[0]), err)
		}
		kinds = append(kinds, way[0].Kind)
		way = append(way, out...)
	}
	return kinds
}

// pull has a replica pull all that all others have.
func pull(t *testing.T, l []*side, i int) []int {
	t.Helper()
	return tell(t, l, l[i].s.Tick())
}

func (x *side) pulls(t *testing.T, pulls, bases int) {
	t.Helper()
	if p, b := x.s.Pulls(); p != pulls || b != bases {
		t.Errorf("Pulls: %d, %d, want %d, %d", p, b, pulls, bases)
	}
}

func (x *side) knows(t *testing.T, peer, vol int, v api.Vector, ok bool) {
	t.Helper()
	if got, is := x.s.Known(peer, vol); got != v || is != ok {
		t.Errorf("Known(%d, %d): %v, %v, want %v, %v", peer, vol, got, is, v, ok)
	}
}

// P20: the document's example
func TestExample(t *testing.T) {
	l := all(t, 2, 1, 300)
	l[0].do(t, 0, mkdir("/a"))
	l[0].commit(t)
	ask := l[1].s.Tick()
	if len(ask) != 1 || ask[0] != (api.Msg{Kind: api.MAsk, From: 1}) {
		t.Fatal(ask)
	}
	part, err := l[0].s.Take(ask[0])
	if err != api.OK || len(part) != 1 || part[0].Kind != api.MPart || part[0].Mark != mark(1, 1) {
		t.Fatal(part, err)
	}
	l[1].take(t, part[0], api.OK)
	l[1].d.Crash()
	l[1].d.Start()
	f, err := fs.Open(l[1].d)
	if err != api.OK {
		t.Fatal(err)
	}
	if ans, _ := f.Call("v0", api.Call{Kind: api.CStat, Path: "/a"}); ans.Err != api.OK {
		t.Error("it was not committed")
	}
}

// P20.1
func TestNew(t *testing.T) {
	for who := range api.MaxReps {
		d, _ := dev.New(60)
		f, _ := fs.Format(d, who, 1)
		for _, reps := range []int{math.MinInt, -1, 0, 1, 2, 3, 4, 5, 6, 7, 8, 9, 1 << 40, math.MaxInt} {
			e := api.EINVAL
			if reps >= 2 && reps <= 8 && reps > who {
				e = api.OK
			}
			s, err := syncd.New(f, reps)
			if err != e || (s != nil) != (e == api.OK) {
				t.Errorf("%d of %d: %v, want %v", who, reps, err, e)
			}
			if s != nil {
				x := &side{d, f, s}
				x.pulls(t, 0, 0)
				for peer := range 8 {
					x.knows(t, peer, 0, api.Vector{}, false)
				}
			}
		}
	}
	for _, f := range []*fs.Fs{nil, {}} {
		for _, reps := range []int{-1, 2, 9} {
			s, err := syncd.New(f, reps)
			if s != nil || err != api.ENIL {
				t.Error(s, err)
			}
		}
	}
}

// DOC, Objects
func TestNone(t *testing.T) {
	for _, s := range []*syncd.Sync{nil, {}} {
		x := &side{s: s}
		x.take(t, api.Msg{}, api.ENIL)
		x.take(t, api.Msg{Kind: api.MAsk, To: 1}, api.ENIL)
		want(t, "Prune", s.Prune(0), api.ENIL)
		want(t, "Prune", s.Prune(-1), api.ENIL)
		x.knows(t, 0, 0, api.Vector{}, false)
		x.pulls(t, 0, 0)
		if l := s.Tick(); l != nil {
			t.Error(l)
		}
	}
}

// P20.1: whom it asks, in which order
func TestTick(t *testing.T) {
	for _, c := range [][3]int{{0, 2, 1}, {1, 2, 3}, {3, 8, 3}, {0, 8, 2}, {7, 8, 1}, {2, 4, 2}} {
		who, reps, vols := c[0], c[1], c[2]
		x := began(t, who, reps, vols, 300)
		for vol := range vols {
			for range vol + 1 {
				x.do(t, vol, write0(x, vol))
			}
		}
		x.f.Snap("v0", "s")
		x.f.Clone("v0", "v9")
		for _, kept := range []bool{false, true} {
			var l []api.Msg
			for vol := range vols {
				var seen api.Vector
				if kept {
					seen[who] = vol + 1
				}
				for peer := range reps {
					if peer != who {
						l = append(l, api.Msg{Kind: api.MAsk, From: who, To: peer, Vol: vol, Seen: seen})
					}
				}
			}
			for range 2 {
				got := x.s.Tick()
				if !slices.Equal(got, l) {
					t.Error(c, got)
				}
				clear(got[:cap(got)]) // it is nobody's
			}
			x.commit(t)
		}
	}
}

// write0 is a call that changes a volume, whatever is in it.
func write0(x *side, vol int) api.Call {
	s, _ := x.f.State(fs.Main(vol))
	return mkdir("/d" + string(rune('a'+len(s.Nodes))))
}

// P20.1: a volume that is one's own is none that all have, whatever its name
func TestOwnVolumes(t *testing.T) {
	x := began(t, 0, 2, 1, 300)
	want(t, "Snap", x.f.Snap("v0", "v1"), api.OK)
	want(t, "Clone", x.f.Clone("v0", "v2"), api.OK)
	x.commit(t)
	is(t, "questions", len(x.s.Tick()), 1)
	for vol := 1; vol <= 2; vol++ {
		x.take(t, api.Msg{Kind: api.MAsk, From: 1, Vol: vol}, api.EINVAL)
		x.knows(t, 1, vol, api.Vector{}, false)
		want(t, "Prune", x.s.Prune(vol), api.ENOENT)
	}
}

// P20.2: what is refused, and changes nothing
func TestTakeRefused(t *testing.T) {
	x := began(t, 1, 4, 2, 300)
	x.do(t, 0, mkdir("/a"))
	x.commit(t)
	ask := api.Msg{Kind: api.MAsk, From: 0, To: 1, Seen: api.Vector{7}}
	for i, by := range []func(m *api.Msg){
		func(m *api.Msg) { *m = api.Msg{} },
		func(m *api.Msg) { m.Kind = 0 },
		func(m *api.Msg) { m.Kind = 5 },
		func(m *api.Msg) { m.Kind = api.MGone },
		func(m *api.Msg) { m.Kind = api.MPart },
		func(m *api.Msg) { m.To = 0 },
		func(m *api.Msg) { m.To = 2 },
		func(m *api.Msg) { m.To = -1 },
		func(m *api.Msg) { m.To = 8 },
		func(m *api.Msg) { m.From = 1 },
		func(m *api.Msg) { m.From = 4 },
		func(m *api.Msg) { m.From = 7 },
		func(m *api.Msg) { m.From = -1 },
		func(m *api.Msg) { m.Vol = 2 },
		func(m *api.Msg) { m.Vol = 3 },
		func(m *api.Msg) { m.Vol = -1 },
		func(m *api.Msg) { m.Vol = 256 },
		func(m *api.Msg) { m.Seen[3] = -1 },
		func(m *api.Msg) { m.Seen[3] = api.MaxTime + 1 },
		func(m *api.Msg) { m.Index = 1 },
		func(m *api.Msg) { m.Total = 1 },
		func(m *api.Msg) { m.Data = "d" },
		func(m *api.Msg) { m.Mark = mark(1, 0) },
		func(m *api.Msg) { m.Base = mark(0, 1) },
		func(m *api.Msg) { m.Mark, m.Index = mark(1, 1), 4096 },
	} {
		m := ask
		by(&m)
		if msg.Check(m) == api.OK && m.To == 1 && m.From != 4 && m.From != 7 && m.Vol != 2 {
			t.Fatal(i, "is none that is refused")
		}
		x.take(t, m, api.EINVAL)
	}
	for peer := -1; peer < 9; peer++ {
		for vol := -1; vol < 4; vol++ {
			x.knows(t, peer, vol, api.Vector{}, false)
		}
	}
	x.pulls(t, 0, 0)
	tree, seen := x.kept(0)
	ask.Seen = api.Vector{}
	ask.From = 3
	x.take(t, ask, api.OK, x.parts(t, api.Msg{From: 1, To: 3, Seen: seen, Mark: mark(1, 1)}, 0, 0, tree)...)
}

// P20.2, P20.3: what others are known to know
func TestKnown(t *testing.T) {
	x := began(t, 2, 4, 2, 300)
	x.do(t, 0, mkdir("/a"))
	x.commit(t)
	x.take(t, api.Msg{Kind: api.MSame, From: 0, To: 2, Vol: 1}, api.OK)
	x.knows(t, 0, 1, api.Vector{}, true) // of noughts alone
	x.take(t, api.Msg{Kind: api.MSame, From: 0, To: 2, Vol: 0, Seen: api.Vector{3, 1}}, api.OK)
	x.knows(t, 0, 0, api.Vector{3, 1}, true)
	x.take(t, api.Msg{Kind: api.MSame, From: 0, To: 2, Vol: 0, Seen: api.Vector{2, 4}}, api.OK)
	x.knows(t, 0, 0, api.Vector{3, 4}, true)
	x.take(t, api.Msg{Kind: api.MGone, From: 0, To: 2, Vol: 0, Mark: mark(1, 1), Seen: api.Vector{0, 0, 0, 5}}, api.OK)
	x.knows(t, 0, 0, api.Vector{3, 4, 0, 5}, true)
	x.take(t, api.Msg{Kind: api.MAsk, From: 0, To: 2, Vol: 0, Seen: api.Vector{2: 6}}, api.OK, api.Msg{Kind: api.MSame, From: 2, To: 0, Seen: api.Vector{2: 1}})
	x.knows(t, 0, 0, api.Vector{3, 4, 6, 5}, true)
	x.take(t, api.Msg{Kind: api.MAsk, From: 0, To: 2, Vol: 0, Seen: api.Vector{7}, Mark: mark(3, 3), Index: 5}, api.OK, api.Msg{Kind: api.MGone, From: 2, To: 0, Seen: api.Vector{2: 1}, Mark: mark(3, 3)})
	x.knows(t, 0, 0, api.Vector{7, 4, 6, 5}, true)
	part := api.Msg{Kind: api.MPart, From: 0, To: 2, Vol: 0, Base: mark(1, 1), Mark: mark(1, 2), Total: 2, Data: "d"}
	part.Seen[7] = 9
	x.take(t, part, api.ESTALE) // it is heard, whatever becomes of the part
	x.knows(t, 0, 0, api.Vector{7, 4, 6, 5, 0, 0, 0, 9}, true)
	part.Base, part.Seen = api.Mark{}, api.Vector{8}
	x.take(t, part, api.EFORM)
	x.knows(t, 0, 0, api.Vector{8, 4, 6, 5, 0, 0, 0, 9}, true)
	x.knows(t, 0, 1, api.Vector{}, true)
	for _, c := range [][2]int{{1, 0}, {3, 0}, {2, 0}, {4, 0}, {-1, 0}, {0, 2}, {0, -1}, {math.MaxInt, math.MinInt}} {
		x.knows(t, c[0], c[1], api.Vector{}, false)
	}
}

// P20.3
func TestPruneRefused(t *testing.T) {
	x := began(t, 0, 3, 2, 300)
	x.do(t, 0, mkdir("/a"))
	for _, vol := range []int{-1, 2, 3, 256, math.MinInt, math.MaxInt} {
		want(t, "Prune of no volume", x.s.Prune(vol), api.ENOENT)
	}
	same := func(peer int, v api.Vector) api.Msg { return api.Msg{Kind: api.MSame, From: peer, Seen: v} }
	want(t, "of none a vector is known", x.s.Prune(0), api.EBUSY)
	x.take(t, same(1, api.Vector{}), api.OK)
	want(t, "of one none is known", x.s.Prune(0), api.EBUSY)
	x.take(t, same(2, api.Vector{}), api.OK)
	want(t, "of noughts alone", x.s.Prune(0), api.OK)
	want(t, "of another volume", x.s.Prune(1), api.EBUSY)
	x.take(t, same(1, api.Vector{1}), api.OK) // not committed, yet known here
	want(t, "within", x.s.Prune(0), api.OK)
	x.take(t, same(2, api.Vector{2}), api.OK)
	want(t, "not within", x.s.Prune(0), api.EBUSY)
	x.do(t, 0, mkdir("/b"))
	want(t, "within now", x.s.Prune(0), api.OK)
	x.take(t, same(1, api.Vector{0, 0, 1}), api.OK)
	want(t, "not within", x.s.Prune(0), api.EBUSY)
}

// P20.3, P20.7
func TestPrune(t *testing.T) {
	l := all(t, 3, 1, 600)
	l[0].do(t, 0, mkdir("/a"), mkdir("/b"), api.Call{Kind: api.CCreate, Path: "/b/f"}, mkdir("/c"))
	l[0].commit(t)
	for i := range 3 {
		pull(t, l, i)
	}
	l[0].do(t, 0, api.Call{Kind: api.CRmdir, Path: "/a"})
	l[0].commit(t)
	pull(t, l, 1)
	pull(t, l, 0)
	l[0].do(t, 0, api.Call{Kind: api.CRmdir, Path: "/c"}) // nobody knows that
	was := l[0].state(t, 0)
	want(t, "one does not know it", l[0].s.Prune(0), api.OK)
	if !facts.Same(l[0].state(t, 0), was) {
		t.Error("pruned what one does not know")
	}
	pull(t, l, 2)
	pull(t, l, 0)
	stable := was.Seen
	for peer := 1; peer < 3; peer++ {
		v, _ := l[0].s.Known(peer, 0)
		stable = vector.Meet(stable, v)
	}
	tree, seen := l[0].kept(0)
	want(t, "Prune", l[0].s.Prune(0), api.OK)
	now := l[0].state(t, 0)
	if !facts.Same(now, join.Prune(was, stable)) || len(now.Links) != len(was.Links)-1 || len(now.Nodes) != len(was.Nodes)-1 || !query.Alike(now, was) {
		t.Error(len(now.Links), len(was.Links), len(now.Nodes), len(was.Nodes))
	}
	if k, v := l[0].kept(0); k != tree || v != seen {
		t.Error("it was committed")
	}
	want(t, "once more", l[0].s.Prune(0), api.OK)
	if !facts.Same(l[0].state(t, 0), now) {
		t.Error("pruned once more")
	}
	l[0].commit(t)
	for i := range 3 {
		pull(t, l, i) // what is pruned does not come back
		if !query.Alike(l[i].state(t, 0), now) {
			t.Error(i, "is not alike")
		}
	}
	is(t, "links", len(l[0].state(t, 0).Links), len(now.Links))
	for i, x := range l[1:] {
		pull(t, l, i+1)
		is(t, "links of one who did not prune", len(x.state(t, 0).Links), len(now.Links))
	}
}

// P20.3: what Put answers is what Prune does
func TestPruneNoRoom(t *testing.T) {
	l := all(t, 2, 1, 100)
	l[0].do(t, 0, mkdir("/a"), api.Call{Kind: api.CRmdir, Path: "/a"})
	l[0].commit(t)
	pull(t, l, 1)
	pull(t, l, 0)
	was := l[0].state(t, 0)
	held := room(t, l[0], fs.Need(2, 1)-1)
	want(t, "no room", l[0].s.Prune(0), api.ENOSPC)
	if !facts.Same(l[0].state(t, 0), was) {
		t.Error("it was pruned")
	}
	l[0].f.Drop(held[0])
	want(t, "room", l[0].s.Prune(0), api.OK)
	is(t, "links", len(l[0].state(t, 0).Links), 0)
	x := began(t, 0, 2, 1, 100)
	x.do(t, 0, mkdir("/a"), api.Call{Kind: api.CRmdir, Path: "/a"})
	x.take(t, api.Msg{Kind: api.MSame, From: 1, Seen: api.Vector{2}}, api.OK)
	x.d.Fuse(0)
	want(t, "no power", x.s.Prune(0), api.EIO)
	is(t, "links", len(x.state(t, 0).Links), 1)
}

// room holds trees till no more than so many blocks are free: those trees.
func room(t *testing.T, x *side, free int) []int {
	t.Helper()
	var l []int
	for i := range x.f.Free() - free {
		root, err := x.f.Grow(0, []api.Change{{Key: "k" + string(rune('a'+i%26)) + string(rune('a'+i/26))}})
		if err != api.OK {
			t.Fatal(err)
		}
		l = append(l, root)
	}
	return l
}

// lead is what leads from one state to another one.
func lead(a, b api.State) []api.Change { return diff.Lists(facts.Entries(a), facts.Entries(b)) }
