package fs_test

import (
	"strings"
	"testing"

	"crannog/api"
	"crannog/calls"
	"crannog/dev"
	"crannog/diff"
	"crannog/facts"
	"crannog/fs"
	"crannog/join"
	"crannog/store"
)

// big is a state of many entries.
func big(t *testing.T) api.State {
	t.Helper()
	s := facts.Empty()
	for i := range 20 {
		path := "/" + string(rune('a'+i))
		for _, c := range []api.Call{{Kind: api.CCreate, Path: path}, {Kind: api.CWrite, Path: path, Data: strings.Repeat("d", 900)}} {
			ans, out := calls.Do(s, 0, c)
			if ans.Err != api.OK {
				t.Fatal(ans)
			}
			s = join.States(s, out)
		}
	}
	return s
}

// copied is a block of a store, and all below it, laid in another one.
func copied(t *testing.T, from, to *store.Store, id int) int {
	t.Helper()
	b, err := from.Get(id)
	if err != api.OK {
		t.Fatal(err)
	}
	var kids []int
	for _, kid := range b.Kids {
		kids = append(kids, copied(t, from, to, kid))
	}
	id, err = to.Put(kids, b.Data)
	if err != api.OK {
		t.Fatal(err)
	}
	return id
}

// full is a device upon which a big volume lies, and a snapshot of it, and so many blocks are free.
func full(t *testing.T, free int) *dev.Dev {
	t.Helper()
	wide, err := store.Format(device(t, 4096), "")
	if err != api.OK {
		t.Fatal(err)
	}
	root, err := diff.Apply(wide, 0, diff.Lists(nil, facts.Entries(big(t))))
	if err != api.OK {
		t.Fatal(err)
	}
	d := device(t, 2+len(wide.Live())+1+free)
	s, err := store.Format(d, "")
	if err != api.OK {
		t.Fatal(err)
	}
	root = copied(t, wide, s, root)
	top, err := s.Put([]int{root, root}, "\x02"+text("s")+"\x02"+text("v0")+"\x01")
	if err != api.OK {
		t.Fatal(err)
	}
	want(t, "Commit", s.Commit(top, fs.Note(0, 1)), api.OK)
	return d
}

// P15.3, P15.8: with little room, or none.
func TestLittleRoom(t *testing.T) {
	for free := range 8 {
		d := full(t, free)
		f := opened(t, d)
		is(t, "Free", f.Free(), free)
		s := state(t, f, "v0")
		root, _, _ := f.Kept("v0")
		grow := func() api.Errno {
			g, err := f.Grow(root, nil)
			is(t, "a tree", g != 0, err == api.OK)
			return err
		}
		for what, does := range []func() api.Errno{
			func() api.Errno { return f.Snap("v0", "t") }, func() api.Errno { return f.Clone("v0", "c") },
			func() api.Errno { return f.Put("v0", s) }, grow,
		} {
			for range 2 {
				want(t, "Commit", f.Commit(), api.OK)
				is(t, "Free", f.Free(), free)
				e := api.OK
				if free < 3 {
					e = api.ENOSPC
				}
				want(t, "what asks for 3: "+string(rune('a'+what)), does(), e)
				f.Delete("t")
				f.Delete("c")
			}
		}
		want(t, "Put", f.Put("v0", facts.Empty()), api.ENOSPC)
		ans, out := f.Call("v0", mkdir("/dir"))
		if ans.Err != api.ENOSPC || !facts.Same(out, api.State{}) || !facts.Same(state(t, f, "v0"), s) {
			t.Error(ans, out)
		}
		want(t, "Commit", f.Commit(), api.OK)
		if free >= 3 {
			want(t, "Snap", f.Snap("v0", "t"), api.OK)
			want(t, "Delete", f.Delete("s"), api.OK)
			want(t, "Delete", f.Delete("t"), api.OK)
		}
		want(t, "Commit", f.Commit(), api.OK)
		restart(d)
		is(t, "what is there", opened(t, d).Free(), free)
	}
}

// P15.4: what is asked for is changes times what one costs, and 3, to the block; ahead of the device's error.
func TestNeedToTheBlock(t *testing.T) {
	chmod := api.Call{Kind: api.CChmod, Path: "/a", N: 5} // of the root's v, the link it touches, the inode: 3 entries
	for _, c := range []struct{ levels, changes int }{{1, 3}, {2, 3}, {3, 3}} {
		for less := range 2 {
			d, f := formatted(t, 200, 0, 1)
			do(t, f, "v0", mkdir("/a"))
			for n, _ := f.Levels("v0"); n < c.levels; n, _ = f.Levels("v0") {
				do(t, f, "v0", mkdir("/a/"+string(rune('a'+len(state(t, f, "v0").Nodes)))))
			}
			// The same on a device on which just so many blocks are free.
			f.Commit()
			root, _, _ := f.Kept("v0")
			from, _ := store.Open(d)
			d = device(t, 2+len(from.Live())+3+c.changes*(2*c.levels+11)-less)
			s, _ := store.Format(d, "")
			top, _ := s.Put([]int{copied(t, from, s, root)}, "\x01"+text("v0")+"\x01")
			want(t, "Commit", s.Commit(top, fs.Note(0, 1)), api.OK)
			f = opened(t, d)
			if n, _ := f.Levels("v0"); n != c.levels || f.Free() != fs.Need(c.changes, c.levels)-less {
				t.Fatal(n, f.Free())
			}
			was := facts.Entries(state(t, f, "v0"))
			if less == 1 {
				d.Crash()
			}
			ans, _ := f.Call("v0", chmod)
			want(t, "chmod", ans.Err, []api.Errno{api.OK, api.ENOSPC}[less])
			if l := diff.Lists(was, facts.Entries(state(t, f, "v0"))); len(l) != c.changes*(1-less) {
				t.Error(l)
			}
		}
	}
}

// P15.3 to P15.5: without power what asks for the device has its error, and leaves nothing behind.
func TestNoPower(t *testing.T) {
	d, f := formatted(t, 200, 0, 1)
	do(t, f, "v0", mkdir("/a"))
	want(t, "Snap", f.Snap("v0", "s"), api.OK)
	want(t, "Commit", f.Commit(), api.OK)
	s, free := state(t, f, "v0"), f.Free()
	root, _, _ := f.Kept("v0")
	d.Crash() // nothing is lost
	for range 2 {
		want(t, "Put of the same", f.Put("v0", s), api.EIO)
		want(t, "Put", f.Put("v0", facts.Empty()), api.EIO)
		want(t, "Snap", f.Snap("v0", "t"), api.EIO)
		want(t, "Clone", f.Clone("v0", "t"), api.EIO)
		want(t, "Delete", f.Delete("s"), api.EIO)
		want(t, "Commit", f.Commit(), api.EIO)
		if ans, out := f.Call("v0", mkdir("/b")); ans.Err != api.EIO || !facts.Same(out, api.State{}) {
			t.Error(ans, out)
		}
		if ans, _ := f.Call("v0", mkdir("/a")); ans.Err != api.EEXIST {
			t.Error(ans)
		}
		_, e1 := f.Load(root)
		_, e2 := f.Diff(root, 0)
		_, e3 := f.Grow(root, nil)
		if e1 != api.EIO || e2 != api.EIO || e3 != api.EIO || f.Free() != free || listed(f) != "s v0" || !facts.Same(state(t, f, "v0"), s) {
			t.Error(e1, e2, e3, f.Free(), listed(f))
		}
		if n, err := f.Levels("v0"); n != 1 || err != api.OK {
			t.Error(n, err)
		}
	}
	d.Start()
	want(t, "Delete", f.Delete("s"), api.OK)
	want(t, "Put", f.Put("v0", facts.Empty()), api.OK)
	want(t, "Commit", f.Commit(), api.OK)
	is(t, "Free", f.Free(), 200-2-2)
}
