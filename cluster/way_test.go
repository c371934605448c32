package cluster_test

import (
	"math"
	"testing"

	"crannog/api"
	"crannog/facts"
	"crannog/msg"
)

// peek is a message on its way, as a line.
func (w world) peek(k int) string {
	w.Helper()
	m, err := w.Peek(k)
	if err != api.OK {
		w.Error(k, err)
	}
	return msg.Text(m)
}

// P21.2, P21.3: messages on their way
func TestWay(t *testing.T) {
	w := began(t, 3, 2, 600)
	w.kind(api.STick, 1, api.OK)
	w.counts(4, 4, 0)
	for k, s := range []string{"ask 1>0 v0", "ask 1>2 v0", "ask 1>0 v1", "ask 1>2 v1"} {
		is(t, "a question", w.peek(k), s+" seen= base=0.0 mark=0.0 from=0")
	}
	step := func(kind, n int, e api.Errno) {
		t.Helper()
		w.do(api.Step{Kind: kind, N: n}, e)
	}
	for _, kind := range []int{api.SDeliver, api.SDrop, api.SDouble} {
		for _, n := range []int{-1, 4, math.MinInt, math.MaxInt} {
			step(kind, n, api.ENOENT)
			m, err := w.Peek(n)
			if m != (api.Msg{}) || err != api.ENOENT {
				t.Error(m, err)
			}
		}
	}
	w.counts(4, 4, 0)
	step(api.SDrop, 1, api.OK)
	w.counts(3, 4, 1)
	step(api.SDouble, 1, api.OK)
	w.counts(4, 4, 1)
	is(t, "doubled", w.peek(3), "ask 1>0 v1 seen= base=0.0 mark=0.0 from=0")
	step(api.SDeliver, 2, api.OK)
	w.counts(4, 5, 1)
	is(t, "said", w.peek(3), "same 2>1 v1 seen=")
	step(api.SDeliver, 3, api.OK)
	w.counts(3, 5, 1)
	w.kind(api.SCrash, 0, api.OK)
	step(api.SDeliver, 0, api.EIO) // it is gone, and not lost
	w.counts(2, 5, 1)
	step(api.SDrop, 0, api.OK)
	w.counts(1, 5, 2)
	w.kind(api.SStart, 0, api.OK)
	step(api.SDeliver, 0, api.OK)
	is(t, "said", w.peek(0), "same 0>1 v1 seen=")
	w.counts(1, 6, 2)
	step(api.SDeliver, 0, api.OK)
	w.counts(0, 6, 2)
	step(api.SDeliver, 0, api.ENOENT)
}

// P21.2: what there is no room for is lost, and all is well
func TestFull(t *testing.T) {
	w := began(t, 8, 3, 300)
	for i := range 8 {
		w.kind(api.STick, i, api.OK)
	}
	w.counts(160, 168, 8)
	is(t, "the last one", w.peek(159), "ask 7>5 v1 seen= base=0.0 mark=0.0 from=0")
	w.do(api.Step{Kind: api.SDouble}, api.ENOSPC)
	w.kind(api.STick, 0, api.OK)
	w.counts(160, 189, 29)
	w.do(api.Step{Kind: api.SDeliver}, api.OK) // there is room for its answer
	w.counts(160, 190, 29)
	w.come()
}

// P21.2: a message is answered by whom it is for, and its error is told
func TestDeliver(t *testing.T) {
	w := began(t, 2, 1, 600)
	w.call(0, "v0", mkdir("/a"), api.OK)
	w.kind(api.SCommit, 0, api.OK)
	w.kind(api.STick, 1, api.OK)
	w.do(api.Step{Kind: api.SDeliver, Rep: 99}, api.OK)
	w.do(api.Step{Kind: api.SDouble}, api.OK)
	w.do(api.Step{Kind: api.SDeliver, Rep: -1}, api.OK)
	is(t, "Seen", w.state(1, "v0").Seen, api.Vector{1})
	was := w.state(1, "v0")
	w.do(api.Step{Kind: api.SDeliver}, api.ESTALE) // DOC 7: nothing happens the second time
	if !facts.Same(w.state(1, "v0"), was) {
		t.Error("something happened")
	}
	w.counts(0, 2, 0)
	w.kind(api.STick, 1, api.OK)
	is(t, "asked", w.peek(0), "ask 1>0 v0 seen=1 base=1.1 mark=0.0 from=0")
	w.do(api.Step{Kind: api.SDeliver}, api.OK)
	is(t, "said", w.peek(0), "same 0>1 v0 seen=1")
}

// P21.5: two worlds to which the same is done are the same
func TestTold(t *testing.T) {
	for seed := range 20 {
		g, h := gone(t, seed), gone(t, seed)
		for range 150 {
			if a, b := g.step(), h.step(); a.Err != b.Err || a.Data != b.Data || a.Stat != b.Stat {
				t.Fatal(seed, a, b)
			}
			on, sent, lost := g.Net()
			h.counts(on, sent, lost)
			for k := range on {
				is(t, "a message", g.peek(k), h.peek(k))
			}
		}
		is(t, "events", g.ats(), h.ats())
	}
}
