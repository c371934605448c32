package cluster_test

import (
	"math"
	"testing"

	"crannog/api"
	"crannog/check"
	"crannog/facts"
	"crannog/join"
)

// P21.2: whatever meets the end of the power takes it
func TestLosesPower(t *testing.T) {
	for _, c := range []struct {
		what string
		step api.Step
	}{
		{"call", api.Step{Kind: api.SCall, Vol: "v0", Call: mkdir("/x")}},
		{"call on a clone", api.Step{Kind: api.SCall, Vol: "c", Call: mkdir("/x")}},
		{"snap", api.Step{Kind: api.SSnap, Vol: "v0", To: "x"}},
		{"clone", api.Step{Kind: api.SClone, Vol: "v0", To: "x"}},
		{"delete", api.Step{Kind: api.SDelete, Vol: "s"}},
		{"commit", api.Step{Kind: api.SCommit}},
		{"prune", api.Step{Kind: api.SPrune, Vol: "v0"}},
		{"deliver", api.Step{Kind: api.SDeliver}},
	} {
		for fuse := range 3 {
			w := began(t, 2, 1, 300)
			w.do(api.Step{Kind: api.SSnap, Vol: "v0", To: "s"}, api.OK)
			w.do(api.Step{Kind: api.SClone, Vol: "v0", To: "c"}, api.OK)
			w.call(0, "v0", mkdir("/a"), api.OK)
			w.call(0, "v0", api.Call{Kind: api.CRmdir, Path: "/a"}, api.OK)
			w.kind(api.SCommit, 0, api.OK)
			w.pull(1)
			w.pull(0)
			w.call(1, "v0", mkdir("/b"), api.OK)
			w.kind(api.SCommit, 1, api.OK)
			w.kind(api.STick, 0, api.OK)
			w.do(api.Step{Kind: api.SDeliver}, api.OK) // its answer is on its way
			n := len(w.Events())
			w.do(api.Step{Kind: api.SFuse, N: fuse}, api.OK)
			err := w.Step(c.step).Err
			if fuse > 0 && err == api.OK {
				continue // it asked for no more
			}
			want(t, c.what, err, api.EIO)
			w.dark(0)
			is(t, "events", len(w.Events()), n)
			w.kind(api.SCommit, 0, api.EIO)
			w.kind(api.STick, 0, api.EIO)
			w.kind(api.SFuse, 0, api.EIO)
			w.kind(api.SStart, 0, api.OK)
			w.kind(api.SCommit, 0, api.OK)
			is(t, "events", len(w.Events()), n)
			is(t, "Seen", w.state(0, "v0").Seen[0], 2)
		}
	}
}

// P21.2: a fuse
func TestFuse(t *testing.T) {
	w := began(t, 2, 1, 300)
	fuse := func(n int) {
		t.Helper()
		w.do(api.Step{Kind: api.SFuse, N: n}, api.OK)
	}
	fuse(0)
	w.call(0, "v0", stat("/"), api.OK) // what asks for no act
	w.kind(api.STick, 0, api.OK)
	w.call(0, "v0", mkdir("x"), api.EINVAL)
	for _, n := range []int{-1, math.MinInt, -9} {
		fuse(0)
		fuse(n)
		w.kind(api.SCommit, 0, api.OK)
	}
	fuse(math.MaxInt)
	w.kind(api.SCommit, 0, api.OK)
	fuse(3) // as many as a commit asks for
	w.kind(api.SCommit, 0, api.OK)
	w.kind(api.SCommit, 0, api.EIO)
	w.dark(0)
	w.kind(api.SStart, 0, api.OK)
	w.kind(api.SCommit, 0, api.OK) // it has none any more
	w.kind(api.SCommit, 1, api.OK)
}

// P21.2: events that went with the power are gone once there is power
func TestEventsThatWent(t *testing.T) {
	w := began(t, 3, 2, 600)
	for i := range 3 {
		w.call(i, "v0", mkdir("/"+string(rune('a'+i))), api.OK)
	}
	w.call(0, "v1", mkdir("/a"), api.OK)
	w.kind(api.SCommit, 0, api.OK)
	w.call(0, "v1", mkdir("/b"), api.OK)
	w.call(0, "v0", mkdir("/d"), api.OK)
	w.call(0, "v1", mkdir("/c"), api.OK)
	l := "1.0v0 1.1v0 1.2v0 1.0v1 2.0v1 2.0v0 3.0v1"
	is(t, "events", w.ats(), l)
	w.kind(api.SCrash, 0, api.OK)
	w.kind(api.SCrash, 1, api.OK)
	is(t, "events", w.ats(), l)
	w.kind(api.SStart, 0, api.OK)
	is(t, "events", w.ats(), "1.0v0 1.1v0 1.2v0 1.0v1")
	w.call(0, "v1", mkdir("/e"), api.OK) // the same stamp, another event
	is(t, "events", w.ats(), "1.0v0 1.1v0 1.2v0 1.0v1 2.0v1")
	w.kind(api.SStart, 1, api.OK)
	is(t, "events", w.ats(), "1.0v0 1.2v0 1.0v1 2.0v1")
	e := w.Events()[3]
	is(t, "its name", e.Delta.Links[0].Name, "e")
	w.kind(api.SStart, 1, api.EBUSY)
	is(t, "events", w.ats(), "1.0v0 1.2v0 1.0v1 2.0v1")
}

// P21.2: what one hears, it has kept; what one says, it had kept
func TestReached(t *testing.T) {
	w := began(t, 2, 1, 600)
	w.call(0, "v0", mkdir("/a"), api.OK)
	w.kind(api.SCommit, 0, api.OK)
	w.call(0, "v0", mkdir("/b"), api.OK)
	w.pull(1)
	is(t, "Seen", w.state(1, "v0").Seen, api.Vector{1})
	w.kind(api.SCrash, 1, api.OK)
	w.kind(api.SStart, 1, api.OK)
	is(t, "Seen behind a crash", w.state(1, "v0").Seen, api.Vector{1})
	w.kind(api.SCrash, 0, api.OK)
	w.kind(api.SStart, 0, api.OK)
	is(t, "events", w.ats(), "1.0v0")
}

// DOC 8: who gave a snapshot crashes; the other one is told, and asks anew
func TestGiverCrashes(t *testing.T) {
	w := began(t, 2, 1, 1000)
	for i := range 4 {
		path := "/" + string(rune('a'+i))
		w.call(0, "v0", api.Call{Kind: api.CCreate, Path: path}, api.OK)
		w.call(0, "v0", api.Call{Kind: api.CWrite, Path: path, Data: string(make([]byte, 1024))}, api.OK)
	}
	w.kind(api.SCommit, 0, api.OK)
	w.kind(api.STick, 1, api.OK)
	w.do(api.Step{Kind: api.SDeliver}, api.OK)
	for range 4 {
		w.do(api.Step{Kind: api.SDeliver}, api.OK)
	}
	m, err := w.Peek(0)
	if err != api.OK || m.Kind != api.MAsk || m.Index != 4 || m.Mark != (api.Mark{Boot: 1, N: 1}) {
		t.Fatal(m, err)
	}
	w.kind(api.SCrash, 0, api.OK)
	w.kind(api.SStart, 0, api.OK)
	w.do(api.Step{Kind: api.SDeliver}, api.OK)
	if m, _ = w.Peek(0); m.Kind != api.MGone || m.Mark != (api.Mark{Boot: 1, N: 1}) {
		t.Fatal(m)
	}
	w.come()
	is(t, "Seen", w.state(1, "v0").Seen, api.Vector{})
	w.pull(1)
	is(t, "Seen", w.state(1, "v0").Seen, api.Vector{8})
}

// T4, DOC 6: wherever the power goes in a commit, also of a merge, and whichever blocks are kept
func TestAtOnce(t *testing.T) {
	for _, kind := range []int{api.SCommit, api.SDeliver} {
		done := false
		for fuse := 0; !done; fuse++ {
			for keep := range 6 {
				w := began(t, 2, 2, 300)
				for i := range 2 {
					w.call(i, "v0", mkdir("/both"), api.OK)
					w.kind(api.SCommit, i, api.OK)
				}
				w.call(1, "v0", mkdir("/there"), api.OK)
				w.kind(api.SCommit, 1, api.OK)
				w.kind(api.STick, 0, api.OK)
				w.do(api.Step{Kind: api.SDeliver}, api.OK)
				w.do(api.Step{Kind: api.SDeliver}, api.OK)
				for n, _, _ := w.Net(); n > 2; n, _, _ = w.Net() {
					w.do(api.Step{Kind: api.SDeliver}, api.OK)
				}
				was := [2]api.State{w.state(0, "v0"), w.state(0, "v1")}
				w.call(0, "v0", mkdir("/here"), api.OK)
				w.call(0, "v1", mkdir("/here"), api.OK)
				now := [2]api.State{w.state(0, "v0"), w.state(0, "v1")}
				if kind == api.SDeliver {
					now[0] = join.Merge(now[0], w.state(1, "v0"))
				}
				w.do(api.Step{Kind: api.SFuse, N: fuse}, api.OK)
				err := w.Step(api.Step{Kind: kind}).Err
				if m, e := w.Peek(0); kind == api.SDeliver && err == api.OK && e == api.OK && m.Kind == api.MPart && m.To == 0 {
					err = w.Step(api.Step{Kind: kind}).Err // its last part
				}
				if err == api.OK {
					done = true
					w.kind(api.SCrash, 0, api.OK)
				}
				var kept []int
				for i, b := range w.Device(0).Dirty() {
					if keep == 5 || keep > 0 && i%keep == 0 {
						kept = append(kept, b)
					}
				}
				w.do(api.Step{Kind: api.SCrash, Keep: kept}, api.OK)
				w.kind(api.SStart, 0, api.OK)
				l := [2]api.State{w.state(0, "v0"), w.state(0, "v1")}
				old := facts.Same(l[0], was[0]) && facts.Same(l[1], was[1])
				all := facts.Same(l[0], now[0]) && facts.Same(l[1], now[1])
				if !all && (!old || err == api.OK) {
					t.Error("kind", kind, "fuse", fuse, "keep", keep, "is neither", err)
				}
				for _, e := range w.Events() {
					if e.At.Who == 0 && e.At.Time > l[e.Vol].Seen[0] {
						t.Error("an event that went is there:", e.At)
					}
				}
				if _, err := check.Device(w.Device(0)); err != api.OK {
					t.Error(err)
				}
			}
		}
	}
}
