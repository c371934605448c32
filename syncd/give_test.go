package syncd_test

import (
	"testing"

	"crannog/api"
	"crannog/facts"
	"crannog/fs"
)

// asks is a question of one of three, to the first one.
func asks(peer, vol int, seen api.Vector, base, mark api.Mark, from int) api.Msg {
	return api.Msg{Kind: api.MAsk, From: peer, Vol: vol, Seen: seen, Base: base, Mark: mark, Index: from}
}

var none = api.Mark{}

// P20.2: whoever knows what is kept is told so
func TestSame(t *testing.T) {
	x := began(t, 0, 3, 2, 300)
	same := func(peer, vol int, seen api.Vector) api.Msg {
		return api.Msg{Kind: api.MSame, To: peer, Vol: vol, Seen: seen}
	}
	x.take(t, asks(1, 0, api.Vector{}, none, none, 0), api.OK, same(1, 0, api.Vector{}))
	x.do(t, 0, mkdir("/a"))
	x.take(t, asks(2, 0, api.Vector{}, mark(5, 6), none, 0), api.OK, same(2, 0, api.Vector{}))
	x.commit(t)
	x.take(t, asks(1, 0, api.Vector{1}, none, none, 0), api.OK, same(1, 0, api.Vector{1}))
	x.take(t, asks(1, 0, api.Vector{2, 3}, mark(1, 1), none, 0), api.OK, same(1, 0, api.Vector{1}))
	x.take(t, asks(2, 1, api.Vector{}, none, none, 0), api.OK, same(2, 1, api.Vector{}))
	for _, kind := range []int{api.MSame, api.MGone} {
		m := api.Msg{Kind: kind, From: 1, Seen: api.Vector{9}}
		if kind == api.MGone {
			m.Mark = mark(1, 1)
		}
		x.take(t, m, api.OK)
	}
	// Nobody was given anything.
	tree, seen := x.kept(0)
	x.take(t, asks(1, 0, api.Vector{0, 5}, none, none, 0), api.OK, x.parts(t, api.Msg{To: 1, Seen: seen, Mark: mark(1, 1)}, 0, 0, tree)...)
}

// P20.2: which snapshot is given, and upon which base
func TestGive(t *testing.T) {
	x := began(t, 0, 3, 2, 1000)
	x.full(t, 0, 3)
	x.full(t, 1, 1)
	a, seen := x.kept(0)
	other, known := x.kept(1)
	first := x.parts(t, api.Msg{To: 1, Seen: seen, Mark: mark(1, 1)}, 0, 0, a)
	if len(first) != 4 || first[0].Total < 9 {
		t.Fatal(len(first), first[0].Total)
	}
	for range 2 { // the same, as often as it is asked
		x.take(t, asks(1, 0, api.Vector{}, none, none, 0), api.OK, first...)
		x.take(t, asks(1, 0, api.Vector{5, 1, 1}, none, none, 0), api.OK, first...)
	}
	// Another one has its own; so has another volume.
	x.take(t, asks(2, 0, api.Vector{}, none, none, 0), api.OK, x.parts(t, api.Msg{To: 2, Seen: seen, Mark: mark(1, 2)}, 0, 0, a)...)
	x.take(t, asks(1, 1, api.Vector{}, none, none, 0), api.OK, x.parts(t, api.Msg{To: 1, Vol: 1, Seen: known, Mark: mark(1, 3)}, 0, 0, other)...)
	// A base that was not given there is none.
	for _, base := range []api.Mark{mark(1, 2), mark(1, 3), mark(1, 9), mark(2, 1)} {
		x.take(t, asks(1, 0, api.Vector{}, base, none, 0), api.OK, first...)
	}
	// Upon one's base there is what is new since: here nothing.
	nothing := x.parts(t, api.Msg{To: 1, Seen: seen, Base: mark(1, 1), Mark: mark(1, 4)}, 0, a, a)
	is(t, "bytes of nothing", nothing[0].Data, "\x00\x00\x00\x00")
	x.take(t, asks(1, 0, api.Vector{}, mark(1, 1), none, 0), api.OK, nothing...)
	x.take(t, asks(1, 0, api.Vector{}, mark(1, 1), none, 0), api.OK, nothing...)
	x.do(t, 0, mkdir("/new"))
	x.take(t, asks(1, 0, api.Vector{}, mark(1, 1), none, 0), api.OK, nothing...) // it is not kept
	x.commit(t)
	b, now := x.kept(0)
	x.take(t, asks(1, 0, seen, mark(1, 4), none, 0), api.OK, x.parts(t, api.Msg{To: 1, Seen: now, Base: mark(1, 4), Mark: mark(1, 5)}, 0, a, b)...)
	// What is not there any more is no base.
	x.take(t, asks(1, 0, seen, mark(1, 1), none, 0), api.OK, x.parts(t, api.Msg{To: 1, Seen: now, Mark: mark(1, 6)}, 0, 0, b)...)
	// Of the other one nothing has changed.
	x.take(t, asks(2, 0, seen, mark(1, 2), none, 0), api.OK, x.parts(t, api.Msg{To: 2, Seen: now, Base: mark(1, 2), Mark: mark(1, 7)}, 0, a, b)...)
}

// P20.2: it is the very tree, not another one of the same entries
func TestVeryTree(t *testing.T) {
	x := began(t, 0, 3, 1, 1000)
	x.do(t, 0, mkdir("/a"))
	x.commit(t)
	s := x.state(t, 0)
	a, seen := x.kept(0)
	x.take(t, asks(1, 0, api.Vector{}, none, none, 0), api.OK, x.parts(t, api.Msg{To: 1, Seen: seen, Mark: mark(1, 1)}, 0, 0, a)...)
	x.commit(t)
	x.take(t, asks(1, 0, api.Vector{}, none, none, 0), api.OK, x.parts(t, api.Msg{To: 1, Seen: seen, Mark: mark(1, 1)}, 0, 0, a)...)
	want(t, "Put", x.f.Put("v0", facts.Empty()), api.OK)
	want(t, "Put", x.f.Put("v0", s), api.OK)
	x.take(t, asks(1, 0, api.Vector{}, none, none, 0), api.OK, x.parts(t, api.Msg{To: 1, Seen: seen, Mark: mark(1, 1)}, 0, 0, a)...)
	x.commit(t)
	b, again := x.kept(0)
	if a == b || seen != again {
		t.Fatal(a, b, seen, again)
	}
	x.take(t, asks(1, 0, api.Vector{}, none, none, 0), api.OK, x.parts(t, api.Msg{To: 1, Seen: seen, Mark: mark(1, 2)}, 0, 0, b)...)
}

// P20.2: from which place on, and what is gone
func TestGiveOn(t *testing.T) {
	x := began(t, 0, 3, 2, 1000)
	x.full(t, 0, 4)
	a, seen := x.kept(0)
	base := api.Msg{To: 1, Seen: seen, Mark: mark(1, 1)}
	gone := func(peer, vol int, k api.Mark, seen api.Vector) api.Msg {
		return api.Msg{Kind: api.MGone, To: peer, Vol: vol, Mark: k, Seen: seen}
	}
	x.take(t, asks(1, 0, api.Vector{}, none, mark(1, 1), 0), api.OK, gone(1, 0, mark(1, 1), seen)) // not given yet
	x.take(t, asks(1, 0, api.Vector{}, none, none, 0), api.OK, x.parts(t, base, 0, 0, a)...)
	x.do(t, 0, mkdir("/b"))
	x.commit(t)
	b, now := x.kept(0)
	total := x.parts(t, base, 0, 0, a)[0].Total
	if total < 9 {
		t.Fatal(total)
	}
	// It stays as it was, and is told from there on, also to who knows all that is kept.
	for i := range total + 6 {
		x.take(t, asks(1, 0, api.Vector{}, none, mark(1, 1), i), api.OK, x.parts(t, base, i, 0, a)...)
		x.take(t, asks(1, 0, now, none, mark(1, 1), i), api.OK, x.parts(t, base, i, 0, a)...)
	}
	x.take(t, asks(1, 0, api.Vector{}, none, mark(1, 1), 4095), api.OK)
	for _, m := range []api.Msg{
		asks(1, 0, seen, mark(1, 1), mark(1, 1), 0), asks(1, 0, seen, none, mark(1, 2), 3), asks(1, 0, seen, none, mark(2, 1), 0),
		asks(2, 0, seen, none, mark(1, 1), 0), asks(1, 1, seen, none, mark(1, 1), 0),
	} {
		known := now
		if m.Vol == 1 {
			known = api.Vector{}
		}
		x.take(t, m, api.OK, gone(m.From, m.Vol, m.Mark, known))
	}
	// One more, upon it: both are there; the next one upon that: the first one is gone, the base's tree is there yet.
	two := api.Msg{To: 1, Seen: now, Base: mark(1, 1), Mark: mark(1, 2)}
	x.take(t, asks(1, 0, seen, mark(1, 1), none, 0), api.OK, x.parts(t, two, 0, a, b)...)
	x.take(t, asks(1, 0, seen, none, mark(1, 1), 4), api.OK, x.parts(t, base, 4, 0, a)...)
	x.take(t, asks(1, 0, seen, mark(1, 1), mark(1, 2), 0), api.OK, x.parts(t, two, 0, a, b)...)
	x.take(t, asks(1, 0, seen, none, mark(1, 2), 0), api.OK, gone(1, 0, mark(1, 2), now))
	x.take(t, asks(1, 0, seen, mark(1, 2), mark(1, 1), 0), api.OK, gone(1, 0, mark(1, 1), now))
	x.do(t, 0, mkdir("/c"))
	x.commit(t)
	c, last := x.kept(0)
	x.take(t, asks(1, 0, now, mark(1, 2), none, 0), api.OK, x.parts(t, api.Msg{To: 1, Seen: last, Base: mark(1, 2), Mark: mark(1, 3)}, 0, b, c)...)
	x.take(t, asks(1, 0, now, none, mark(1, 1), 0), api.OK, gone(1, 0, mark(1, 1), last))
	x.take(t, asks(1, 0, now, mark(1, 1), mark(1, 2), 0), api.OK, x.parts(t, two, 0, a, b)...)
	// One without a base: it is alone.
	x.take(t, asks(1, 0, now, none, none, 0), api.OK, x.parts(t, api.Msg{To: 1, Seen: last, Mark: mark(1, 4)}, 0, 0, c)...)
	x.take(t, asks(1, 0, now, mark(1, 1), mark(1, 2), 0), api.OK, gone(1, 0, mark(1, 2), last))
	x.take(t, asks(1, 0, now, mark(1, 2), mark(1, 3), 0), api.OK, gone(1, 0, mark(1, 3), last))
}

// P20.2: trees stay as long as they are needed, and no longer
func TestTreesThatAreGiven(t *testing.T) {
	x := began(t, 0, 3, 1, 1000)
	x.do(t, 0, mkdir("/d"))
	x.commit(t)
	free := x.f.Free()
	var trees []int
	var last api.Mark
	there := func(l ...bool) {
		t.Helper()
		for i, ok := range l {
			_, err := x.f.Load(trees[i])
			is(t, "tree "+string(rune('0'+i)), err == api.OK, ok)
		}
	}
	give := func() {
		t.Helper()
		x.do(t, 0, api.Call{Kind: api.CChmod, Path: "/d", N: len(trees)})
		x.commit(t)
		tree, _ := x.kept(0)
		trees = append(trees, tree)
		out, err := x.s.Take(asks(1, 0, api.Vector{}, last, none, 0))
		if err != api.OK || out[0].Mark != mark(1, len(trees)) || out[0].Base != last {
			t.Fatal(out, err)
		}
		last = out[0].Mark
	}
	held := x.f.Free
	give()
	is(t, "Free", held(), free)
	give()
	is(t, "Free", held(), free-1)
	there(true, true)
	give() // upon the second one, that is upon the first one
	is(t, "Free", held(), free-2)
	there(true, true, true)
	give()
	is(t, "Free", held(), free-2)
	there(false, true, true, true)
	for range 20 {
		give()
		is(t, "Free", held(), free-2)
	}
	last = none
	give()
	is(t, "Free", held(), free)
	x.take(t, asks(2, 0, api.Vector{}, none, none, 0), api.OK, x.parts(t, api.Msg{To: 2, Seen: x.state(t, 0).Seen, Mark: mark(1, len(trees)+1)}, 0, 0, trees[len(trees)-1])...)
	is(t, "Free", held(), free)
}

// P20.2: boots tell snapshots of one opening from those of another one
func TestBoots(t *testing.T) {
	x := began(t, 0, 3, 1, 300)
	x.do(t, 0, mkdir("/a"))
	x.commit(t)
	for boot := 1; boot < 4; boot++ {
		tree, seen := x.kept(0)
		x.take(t, asks(1, 0, api.Vector{}, mark(1, 1), mark(boot, 1), 0), api.OK, api.Msg{Kind: api.MGone, To: 1, Seen: seen, Mark: mark(boot, 1)})
		x.take(t, asks(1, 0, api.Vector{}, none, none, 0), api.OK, x.parts(t, api.Msg{To: 1, Seen: seen, Mark: mark(boot, 1)}, 0, 0, tree)...)
		x.d.Crash()
		x.d.Start()
		x.f, _ = fs.Open(x.d)
		x.part(t, 3)
	}
}

// P20.2, DOC, Nothing has changed: what can't be read was not given
func TestGiveNoPower(t *testing.T) {
	x := began(t, 0, 3, 1, 300)
	x.do(t, 0, mkdir("/a"))
	x.commit(t)
	tree, seen := x.kept(0)
	parts := x.parts(t, api.Msg{To: 1, Seen: seen, Mark: mark(1, 1)}, 0, 0, tree)
	x.d.Crash()
	x.take(t, asks(1, 0, api.Vector{}, none, none, 0), api.EIO)
	x.take(t, asks(1, 0, api.Vector{}, none, mark(1, 1), 0), api.OK, api.Msg{Kind: api.MGone, To: 1, Seen: seen, Mark: mark(1, 1)})
	x.d.Start()
	x.take(t, asks(1, 0, api.Vector{}, none, none, 0), api.OK, parts...)
	x.d.Crash()
	x.take(t, asks(1, 0, api.Vector{}, none, none, 0), api.EIO)
	x.take(t, asks(1, 0, api.Vector{}, none, mark(1, 1), 0), api.EIO)
	x.d.Start()
	x.take(t, asks(1, 0, api.Vector{}, none, mark(1, 1), 0), api.OK, parts...)
}

// P20.5: what is given upon a base has what is new since alone
func TestFromThereOn(t *testing.T) {
	l := all(t, 2, 1, 2000)
	l[0].full(t, 0, 6)
	is(t, "messages of all", len(pull(t, l, 1)) > 10, true)
	for i := range 5 {
		l[0].do(t, 0, mkdir("/d"+string(rune('a'+i))))
		l[0].commit(t)
		ask := l[1].s.Tick()
		parts, err := l[0].s.Take(ask[0])
		if err != api.OK || len(parts) != 1 || len(parts[0].Data) > 400 || parts[0].Base != ask[0].Base || parts[0].Base == none {
			t.Fatal(len(parts), err)
		}
		l[1].take(t, parts[0], api.OK)
		if !facts.Same(l[0].state(t, 0), l[1].state(t, 0)) {
			t.Error("not the same")
		}
	}
}
