package syncd_test

import (
	"slices"
	"strings"
	"testing"

	"crannog/api"
	"crannog/calls"
	"crannog/diff"
	"crannog/facts"
	"crannog/fs"
	"crannog/join"
	"crannog/stream"
)

// made is the state that calls of a replica make.
func made(t *testing.T, s api.State, who int, l ...api.Call) api.State {
	t.Helper()
	for _, c := range l {
		ans, out := calls.Do(s, who, c)
		if ans.Err != api.OK {
			t.Fatal(c, ans.Err)
		}
		s = join.States(s, out)
	}
	return s
}

// whole is what leads from nothing to a state.
func whole(s api.State) []api.Change { return diff.Lists(nil, facts.Entries(s)) }

// big is a state of many parts.
func big(t *testing.T, who int) api.State {
	t.Helper()
	s := facts.Empty()
	for i := range 4 {
		path := "/f" + string(rune('a'+i))
		s = made(t, s, who, api.Call{Kind: api.CCreate, Path: path}, write(path, strings.Repeat(path+"/", 256)))
	}
	return s
}

// all the parts of changes, as messages from 0 to 1.
func parcels(m api.Msg, l []api.Change) []api.Msg {
	m.To = 1
	var out []api.Msg
	for from := 0; ; {
		w := cut(m, l, from)
		if len(w) == 0 {
			return out
		}
		out = append(out, w...)
		from += len(w)
	}
}

// gets has messages be taken, to which nothing is said but questions; the last one has some error.
func (x *side) gets(t *testing.T, e api.Errno, l []api.Msg) {
	t.Helper()
	for i, m := range l {
		out, err := x.s.Take(m)
		last := i == len(l)-1
		if !last && err != api.OK || last && (err != e || len(out) > 0) {
			t.Fatal(i, out, err)
		}
	}
}

// asked is what a replica asks 0 for.
func (x *side) asked(t *testing.T, base, mark api.Mark, from int) {
	t.Helper()
	_, seen := x.kept(0)
	m := api.Msg{Kind: api.MAsk, From: 1, Seen: seen, Base: base, Mark: mark, Index: from}
	if l := x.s.Tick(); l[0] != m {
		t.Errorf("asked: %v, want %v", l[0], m)
	}
}

// P20.2: part by part, and what is said to each
func TestParts(t *testing.T) {
	s := big(t, 0)
	l := parcels(api.Msg{Seen: s.Seen, Mark: mark(4, 9)}, whole(s))
	total := len(l)
	if total < 9 || total%api.Window == 0 {
		t.Fatal(total)
	}
	ask := func(from int) api.Msg {
		return api.Msg{Kind: api.MAsk, From: 1, Mark: mark(4, 9), Index: from}
	}
	x := began(t, 1, 3, 2, 2000)
	x.pulls(t, 0, 0)
	x.take(t, l[0], api.OK)
	x.pulls(t, 1, 0)
	x.asked(t, none, mark(4, 9), 1)
	x.take(t, l[0], api.OK)
	x.take(t, l[2], api.OK)
	x.take(t, l[3], api.OK)
	x.asked(t, none, mark(4, 9), 1)
	x.take(t, l[1], api.OK, ask(4)) // all four of it
	x.take(t, l[1], api.OK)         // it is not new
	x.take(t, l[3], api.OK)
	for _, i := range []int{7, 6, 5} {
		x.take(t, l[i], api.OK)
		x.asked(t, none, mark(4, 9), 4)
	}
	// Behind what is missing there is more.
	x.take(t, l[8], api.OK)
	x.take(t, l[4], api.OK, ask(9))
	x.asked(t, none, mark(4, 9), 9)
	for _, m := range l[9 : total-1] {
		if out, err := x.s.Take(m); err != api.OK || len(out) > 1 {
			t.Error(out, err)
		}
	}
	x.asked(t, none, mark(4, 9), total-1)
	is(t, "nothing yet", facts.Same(x.state(t, 0), facts.Empty()), true)
	x.pulls(t, 1, 0)
	x.take(t, l[total-1], api.OK)
	x.pulls(t, 0, 1)
	x.knows(t, 0, 0, s.Seen, true)
	x.asked(t, mark(4, 9), none, 0)
	if !facts.Same(x.state(t, 0), s) {
		t.Error("not as it was sent")
	}
	if _, seen := x.kept(0); seen != s.Seen {
		t.Error("not committed")
	}
	for _, m := range l { // what comes too late
		x.take(t, m, api.ESTALE)
	}
	x.pulls(t, 0, 1)
	// Others, and other volumes, are asked as before.
	for i, m := range x.s.Tick()[1:] {
		if m.Base != none || m.Mark != none || m.Index != 0 {
			t.Error(i, m)
		}
	}
}

// P20.2: with one part it is done; whole windows at the end are told by no question
func TestLastWindow(t *testing.T) {
	for many := 1; many <= 13; many++ {
		s := facts.Empty()
		l := stream.Cut(whole(s))
		for i := 0; len(l) < many; i++ {
			path := "/s" + string(rune('a'+i))
			s = made(t, s, 0, api.Call{Kind: api.CSymlink, Path: path, To: "x"})
			l = stream.Cut(whole(s))
		}
		x := began(t, 1, 2, 1, 1000)
		m := parcels(api.Msg{Seen: s.Seen, Mark: mark(1, 1)}, whole(s))
		is(t, "parts", len(m), many)
		var asked []int
		for i, p := range m {
			out, err := x.s.Take(p)
			if err != api.OK || len(out) > 1 || len(out) == 1 && (i%4 != 3 || i == many-1 || out[0].Index != i+1) {
				t.Error(i, out, err)
			}
			for _, o := range out {
				asked = append(asked, o.Index)
			}
		}
		var should []int
		for i := 4; i < many; i += 4 {
			should = append(should, i)
		}
		if !slices.Equal(asked, should) || !facts.Same(x.state(t, 0), s) {
			t.Error(many, asked)
		}
	}
}

// P20.2: parts that are not of what is pulled
func TestStale(t *testing.T) {
	s := big(t, 0)
	l := parcels(api.Msg{Seen: s.Seen, Mark: mark(2, 2)}, whole(s))
	with := func(m api.Msg, by func(m *api.Msg)) api.Msg {
		by(&m)
		return m
	}
	x := began(t, 1, 3, 1, 2000)
	// Without a base none comes upon one.
	for _, k := range []api.Mark{mark(2, 2), mark(1, 1), mark(2, 1)} {
		x.take(t, with(l[0], func(m *api.Msg) { m.Base = k }), api.ESTALE)
	}
	x.pulls(t, 0, 0)
	x.take(t, l[1], api.OK)
	for _, by := range []func(m *api.Msg){
		func(m *api.Msg) { m.Mark = mark(2, 3) },
		func(m *api.Msg) { m.Mark = mark(1, 2) },
		func(m *api.Msg) { m.Base = mark(2, 2) },
		func(m *api.Msg) { m.Base = mark(2, 1) },
		func(m *api.Msg) { m.Mark, m.Total = mark(2, 3), m.Total+1 },
	} {
		x.take(t, with(l[0], by), api.ESTALE)
		x.pulls(t, 1, 0)
		x.asked(t, none, mark(2, 2), 0)
	}
	x.take(t, with(l[0], func(m *api.Msg) { m.From = 2 }), api.OK) // of another one there is another one
	x.pulls(t, 2, 0)
	x.gets(t, api.OK, append(slices.Clone(l[:1]), l[2:]...))
	x.pulls(t, 1, 1)
	// With a base: nothing of it, nothing upon another one, but whatever leads from nothing.
	for _, by := range []func(m *api.Msg){
		func(m *api.Msg) {},
		func(m *api.Msg) { m.Base = mark(2, 2) },
		func(m *api.Msg) { m.Base, m.Mark = mark(2, 1), mark(2, 3) },
		func(m *api.Msg) { m.Base, m.Mark = mark(1, 2), mark(2, 3) },
		func(m *api.Msg) { m.Base, m.Mark = mark(2, 3), mark(2, 3) },
	} {
		x.take(t, with(l[0], by), api.ESTALE)
		x.pulls(t, 1, 1)
		x.asked(t, mark(2, 2), none, 0)
	}
	older := with(l[0], func(m *api.Msg) { m.Mark = mark(2, 1) })
	x.take(t, older, api.OK)
	x.pulls(t, 2, 1)
	x.asked(t, none, mark(2, 1), 1)
	x.take(t, with(l[1], func(m *api.Msg) { m.Base, m.Mark = mark(2, 2), mark(2, 3) }), api.ESTALE)
	x.take(t, api.Msg{Kind: api.MGone, To: 1, Mark: mark(2, 1)}, api.OK)
	x.pulls(t, 1, 1)
	x.take(t, with(l[1], func(m *api.Msg) { m.Base, m.Mark = mark(2, 2), mark(2, 3) }), api.OK)
	x.asked(t, mark(2, 2), mark(2, 3), 0)
}

// P20.2: parts that can't be end what is pulled
func TestBadParts(t *testing.T) {
	s := big(t, 0)
	l := parcels(api.Msg{Seen: s.Seen, Mark: mark(1, 1)}, whole(s))
	total := len(l)
	for i, by := range []func(m *api.Msg){
		func(m *api.Msg) { m.Total++ },
		func(m *api.Msg) { m.Total-- },
		func(m *api.Msg) { m.Data = m.Data[1:] },
		func(m *api.Msg) { m.Data = "x" },
		func(m *api.Msg) { *m = l[0]; m.Data = "x" + m.Data[1:] }, // another one than came
		func(m *api.Msg) { *m = l[0]; m.Total++ },
		func(m *api.Msg) { *m = l[0]; m.Index, m.Total = total, total+1 },
	} {
		x := began(t, 1, 2, 1, 2000)
		x.take(t, l[0], api.OK)
		x.take(t, l[1], api.OK)
		m := l[2]
		by(&m)
		x.take(t, m, api.EFORM)
		x.pulls(t, 0, 0)
		x.asked(t, none, none, 0)
		is(t, "as it was", facts.Same(x.state(t, 0), facts.Empty()), true)
		// It begins anew, with nothing.
		x.take(t, l[2], api.OK)
		x.asked(t, none, mark(1, 1), 0)
		x.gets(t, api.OK, append(slices.Clone(l[:2]), l[3:]...))
		if !facts.Same(x.state(t, 0), s) {
			t.Error(i, "not as it was sent")
		}
	}
	// What begins one, and can't be, leaves none.
	x := began(t, 1, 2, 1, 300)
	short := l[0]
	short.Data = "short"
	x.take(t, short, api.EFORM)
	x.pulls(t, 0, 0)
	// The last one that can't be ends it, too.
	for _, m := range l[:total-1] {
		if _, err := x.s.Take(m); err != api.OK {
			t.Error(err)
		}
	}
	bad := l[total-1]
	bad.Total++
	bad.Data = strings.Repeat("x", 512)
	x.take(t, bad, api.EFORM)
	x.pulls(t, 0, 0)
}

// P20.2
func TestGone(t *testing.T) {
	s := big(t, 0)
	l := parcels(api.Msg{Seen: s.Seen, Mark: mark(1, 7)}, whole(s))
	x := began(t, 1, 3, 2, 2000)
	gone := func(from, vol int, k api.Mark) api.Msg {
		return api.Msg{Kind: api.MGone, From: from, To: 1, Vol: vol, Mark: k}
	}
	x.take(t, gone(0, 0, mark(1, 7)), api.OK)
	x.pulls(t, 0, 0)
	x.take(t, l[0], api.OK)
	for _, m := range []api.Msg{gone(0, 0, mark(1, 6)), gone(0, 0, mark(7, 1)), gone(2, 0, mark(1, 7)), gone(0, 1, mark(1, 7))} {
		x.take(t, m, api.OK)
		x.pulls(t, 1, 0)
	}
	x.take(t, api.Msg{Kind: api.MSame, To: 1, Seen: s.Seen}, api.OK)
	x.pulls(t, 1, 0)
	x.take(t, gone(0, 0, mark(1, 7)), api.OK)
	x.pulls(t, 0, 0)
	x.asked(t, none, none, 0)
	x.take(t, l[1], api.OK)
	x.asked(t, none, mark(1, 7), 0)
	x.gets(t, api.OK, append(slices.Clone(l[:1]), l[2:]...))
	x.take(t, gone(0, 0, mark(1, 7)), api.OK) // a base stays
	x.pulls(t, 0, 1)
	x.asked(t, mark(1, 7), none, 0)
}

// P20.2, To finish: what is refused, by whom, and that all is as it was
func TestFinishRefused(t *testing.T) {
	good := made(t, facts.Empty(), 0, mkdir("/a"))
	file := made(t, facts.Empty(), 0, api.Call{Kind: api.CCreate, Path: "/a"})
	wrong := facts.Clone(good)
	wrong.Links[0].Name = ""
	for i, c := range []struct {
		l []api.Change
		e api.Errno
	}{
		{nil, api.EFORM}, // of the empty tree there is no state
		{whole(good)[1:], api.EFORM},
		{whole(wrong), api.EFORM},
		{append(whole(good), api.Change{Key: "zz"}), api.EFORM},
		{append([]api.Change{{Key: "a", Gone: true}}, whole(good)...), api.OK}, // what is not there goes
		{whole(good), api.OK},
		{whole(file), api.OK},
	} {
		x := began(t, 1, 2, 1, 300)
		free := x.f.Free()
		x.gets(t, c.e, parcels(api.Msg{Mark: mark(1, 1), Seen: api.Vector{7: 1}}, c.l))
		if c.e == api.OK {
			x.pulls(t, 0, 1)
			x.knows(t, 0, 0, api.Vector{0: 1, 7: 1}, true)
			continue
		}
		x.pulls(t, 0, 0)
		x.asked(t, none, none, 0)
		x.knows(t, 0, 0, api.Vector{7: 1}, true)
		is(t, "Free", x.f.Free(), free)
		if !facts.Same(x.state(t, 0), facts.Empty()) {
			t.Error(i, "it is not as it was")
		}
	}
	// Bytes that are no changes.
	for _, data := range []string{"x", "\x00\x00\x00\x01", "\x00\x00\x00\x00\x00", "\x00\x00\x00\x01\x02\x00\x01k\x00\x00", strings.Repeat("\x00", 512)} {
		x := began(t, 1, 2, 1, 300)
		x.take(t, api.Msg{Kind: api.MPart, To: 1, Mark: mark(1, 1), Total: 1, Data: data}, api.EFORM)
		x.pulls(t, 0, 0)
	}
	// Two states that may be, and can't be one.
	x := began(t, 1, 2, 1, 300)
	x.gets(t, api.OK, parcels(api.Msg{Mark: mark(1, 1)}, whole(file)))
	free := x.f.Free()
	x.gets(t, api.EFORM, parcels(api.Msg{Mark: mark(1, 2)}, whole(good)))
	x.gets(t, api.EFORM, parcels(api.Msg{Mark: mark(1, 2), Base: mark(1, 1)}, lead(file, good)))
	x.pulls(t, 0, 1)
	x.asked(t, mark(1, 1), none, 0)
	is(t, "Free", x.f.Free(), free)
	if !facts.Same(x.state(t, 0), file) {
		t.Error("it is not as it was")
	}
}

// P20.2: room is asked for by Grow, and by Put
func TestFinishNoRoom(t *testing.T) {
	s := made(t, facts.Empty(), 0, mkdir("/a"), mkdir("/b"))
	l := whole(s)
	m := parcels(api.Msg{Mark: mark(1, 1), Seen: s.Seen}, l)
	grow, put, blocks := fs.Need(len(l), 0), fs.Need(len(lead(facts.Empty(), s)), 2), 1 // blocks of that tree
	if grow+3 > put {
		t.Fatal(grow, put)
	}
	for free := grow - 3; free <= put+blocks+3; free++ {
		x := began(t, 1, 2, 1, 200)
		for i := range 6 {
			x.do(t, 0, mkdir("/d"+string(rune('a'+i))))
		}
		x.commit(t)
		was := x.state(t, 0)
		if levels, _ := x.f.Levels("v0"); levels != 2 {
			t.Fatal(levels)
		}
		held := room(t, x, free)
		e := api.OK
		if free < grow || free-blocks < put {
			e = api.ENOSPC
		}
		x.gets(t, e, m)
		x.knows(t, 0, 0, s.Seen, true)
		if e == api.OK {
			x.pulls(t, 0, 1)
			continue
		}
		x.pulls(t, 0, 0)
		is(t, "Free", x.f.Free(), free)
		is(t, "as it was", facts.Same(x.state(t, 0), was), true)
		for _, root := range held[:put+blocks-free] {
			x.f.Drop(root)
		}
		x.gets(t, api.OK, m)
		if !facts.Same(x.state(t, 0), join.Merge(was, s)) {
			t.Error("not as it should be")
		}
	}
}

// P20.2, P20.4, T4: the power goes at each act
func TestFinishNoPower(t *testing.T) {
	first := made(t, facts.Empty(), 0, mkdir("/a"))
	s := made(t, first, 0, mkdir("/a/b"), mkdir("/c"))
	ends := 0
	for fuse := 0; ends == 0; fuse++ {
		for keep := range 8 {
			x := began(t, 1, 2, 1, 300)
			x.gets(t, api.OK, parcels(api.Msg{Mark: mark(1, 1)}, whole(first)))
			x.do(t, 0, mkdir("/mine"))
			x.commit(t)
			was := x.state(t, 0)
			both := join.Merge(was, s)
			x.d.Fuse(fuse)
			parts := parcels(api.Msg{Mark: mark(1, 2), Base: mark(1, 1)}, lead(first, s))
			if len(parts) != 2 {
				t.Fatal(len(parts))
			}
			x.take(t, parts[1], api.OK)
			out, err := x.s.Take(parts[0])
			if err == api.OK {
				ends++
				x.pulls(t, 0, 1)
				x.asked(t, mark(1, 2), none, 0)
				x.knows(t, 0, 0, s.Seen, true)
				break
			}
			if len(out) > 0 || err != api.EIO {
				t.Fatal(out, err)
			}
			x.pulls(t, 0, 1)
			x.asked(t, mark(1, 1), none, 0)
			x.knows(t, 0, 0, first.Seen, true)
			if now := x.state(t, 0); !facts.Same(now, was) && !facts.Same(now, both) {
				t.Error("neither as it was nor as it should be")
			}
			var kept []int
			for i, b := range x.d.Dirty() {
				if keep == 7 || keep > 0 && (i+1)%(keep+1) == 0 {
					kept = append(kept, b)
				}
			}
			x.d.Crash(kept...)
			x.d.Start()
			f, err := fs.Open(x.d)
			if err != api.OK {
				t.Fatal(err)
			}
			if now, _ := f.State("v0"); !facts.Same(now, was) && !facts.Same(now, both) {
				t.Error("behind a crash neither as it was nor as it should be")
			}
		}
	}
}

// P20.2: what Put has put stays, if Commit fails
func TestCommitFails(t *testing.T) {
	s := made(t, facts.Empty(), 0, mkdir("/a"))
	for fuse := 0; ; fuse++ {
		x := began(t, 1, 2, 1, 300)
		_, seen := x.kept(0)
		x.d.Fuse(fuse)
		_, err := x.s.Take(parcels(api.Msg{Mark: mark(1, 1)}, whole(s))[0])
		if err == api.OK {
			t.Error("never")
			return
		}
		if _, now := x.kept(0); now != seen {
			t.Error("kept")
		}
		if x.has(0, "/a") {
			x.pulls(t, 0, 0)
			x.knows(t, 0, 0, api.Vector{}, true)
			return
		}
	}
}

// P20.2: a snapshot in which nothing is new is merged without a commit, and is the base
func TestNothingNew(t *testing.T) {
	first := made(t, facts.Empty(), 0, mkdir("/a"))
	x := began(t, 1, 2, 1, 300)
	x.gets(t, api.OK, parcels(api.Msg{Mark: mark(1, 1)}, whole(first)))
	x.do(t, 0, mkdir("/mine"))
	tree, seen := x.kept(0)
	x.gets(t, api.OK, parcels(api.Msg{Mark: mark(1, 2), Base: mark(1, 1)}, nil))
	if now, v := x.kept(0); now != tree || v != seen {
		t.Error("it was committed")
	}
	x.asked(t, mark(1, 2), none, 0)
	x.gets(t, api.OK, parcels(api.Msg{Mark: mark(1, 3)}, whole(facts.Empty()))) // an elder one, in truth
	x.asked(t, mark(1, 3), none, 0)
	is(t, "mine", x.has(0, "/mine") && x.has(0, "/a"), true)
	if now, v := x.kept(0); now != tree || v != seen {
		t.Error("it was committed")
	}
	x.knows(t, 0, 0, first.Seen, true)
	x.pulls(t, 0, 1)
	// With it all that was done here is kept.
	second := made(t, first, 0, mkdir("/b"))
	x.gets(t, api.OK, parcels(api.Msg{Mark: mark(1, 4), Base: mark(1, 3)}, lead(facts.Empty(), second)))
	if _, v := x.kept(0); v != (api.Vector{2, 2}) {
		t.Error(v)
	}
}

// P20.2: the base's tree stays, the elder one's goes
func TestTreesOfBases(t *testing.T) {
	s := facts.Empty()
	x := began(t, 1, 2, 1, 1000)
	base, free := none, 0
	for i := range 12 {
		next := made(t, s, 0, api.Call{Kind: api.CChmod, Path: "/", N: i})
		m, changes := api.Msg{Mark: mark(1, 1+i), Base: base}, lead(s, next)
		if i%5 == 0 {
			m.Base, changes = none, whole(next) // from nothing, now and then
		}
		x.gets(t, api.OK, parcels(m, changes))
		x.commit(t)
		if i == 0 {
			free = x.f.Free()
		}
		is(t, "Free", x.f.Free(), free)
		s, base = next, m.Mark
		if !facts.Same(x.state(t, 0), s) {
			t.Fatal(i)
		}
	}
}

// P20.2: what was pruned by one does not come back from the other one, whoever pulls
func TestPrunedStays(t *testing.T) {
	l := all(t, 2, 1, 300)
	l[0].do(t, 0, mkdir("/a"), api.Call{Kind: api.CRmdir, Path: "/a"}, mkdir("/b"))
	l[0].commit(t)
	pull(t, l, 1)
	pull(t, l, 0)
	want(t, "Prune", l[0].s.Prune(0), api.OK)
	l[0].do(t, 0, mkdir("/c"))
	l[0].commit(t)
	l[1].do(t, 0, mkdir("/d"))
	l[1].commit(t)
	pull(t, l, 0)
	is(t, "links of who pruned", len(l[0].state(t, 0).Links), 3)
	pull(t, l, 1)
	is(t, "links of the other one", len(l[1].state(t, 0).Links), 3)
	if !facts.Same(l[0].state(t, 0), l[1].state(t, 0)) {
		t.Error("not the same")
	}
}
