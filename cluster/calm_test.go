package cluster_test

import (
	"math"
	"strings"
	"testing"

	"crannog/api"
	"crannog/facts"
	"crannog/fs"
)

// calm is Calm, once more, by steps alone.
func calm(w world, rounds int) bool {
	ok := true
	do := func(s api.Step) {
		if err := w.Step(s).Err; err != api.OK && err != api.ESTALE {
			ok = false
		}
	}
	come := func() {
		for on, _, _ := w.Net(); on > 0; on, _, _ = w.Net() {
			do(api.Step{Kind: api.SDeliver})
		}
	}
	reps, _ := w.Size()
	for i := range reps {
		if _, err := w.State(i, "v0"); err == api.EIO {
			do(api.Step{Kind: api.SStart, Rep: i})
		}
		do(api.Step{Kind: api.SFuse, Rep: i, N: -1})
		do(api.Step{Kind: api.SCommit, Rep: i})
	}
	for range rounds {
		come()
		for i := range reps {
			do(api.Step{Kind: api.STick, Rep: i})
			come()
		}
	}
	return ok
}

// same tells whether two worlds are.
func same(t *testing.T, v, w world) {
	t.Helper()
	on, sent, lost := v.Net()
	w.counts(on, sent, lost)
	reps, _ := v.Size()
	for i := range reps {
		a, e := v.State(i, "v0")
		b, f := w.State(i, "v0")
		if e != f || !facts.Same(a, b) || v.Free(i) != w.Free(i) {
			t.Error(i, "is not the same", e, f, v.Free(i), w.Free(i))
		}
	}
	is(t, "events", v.ats(), w.ats())
}

// P21.3: what Calm does, round by round
func TestCalm(t *testing.T) {
	t.Parallel()
	for seed := range 40 {
		for _, rounds := range []int{0, 1, 2, 4} {
			v, w := gone(t, 300+seed), gone(t, 300+seed)
			for range 80 {
				v.step()
				w.step()
			}
			got := v.Calm(rounds)
			is(t, "calm", got, calm(w.world, rounds))
			same(t, v.world, w.world)
			if t.Failed() {
				t.Fatal("seed", seed, "rounds", rounds)
			}
		}
	}
}

// P21.3: the edges of rounds, and what was on its way
func TestRounds(t *testing.T) {
	w := began(t, 2, 1, 300)
	w.call(0, "v0", mkdir("/a"), api.OK)
	w.kind(api.SCrash, 1, api.OK)
	w.kind(api.STick, 0, api.OK)
	for _, n := range []int{0, -1, math.MinInt} {
		is(t, "of no rounds", w.Calm(n), true) // nothing had to come
		w.counts(1, 1, 0)
	}
	w.kind(api.SStart, 1, api.EBUSY)
	w.kind(api.SCrash, 0, api.OK)
	w.kind(api.SStart, 0, api.OK)
	is(t, "committed", w.state(0, "v0").Seen, api.Vector{1})
	is(t, "of one", w.Calm(1), true)
	w.counts(0, 6, 0)
	is(t, "Seen", w.state(1, "v0").Seen, api.Vector{1})
	is(t, "of 100", w.Calm(100), true)
	w.counts(0, 406, 0)
	for _, n := range []int{101, 100000, math.MaxInt} {
		_, was, _ := w.Net()
		is(t, "of more", w.Calm(n), true)
		w.counts(0, was+400, 0)
	}
}

// P21.3: a fuse is taken away; what is stale is in nobody's way
func TestCalmAgain(t *testing.T) {
	w := began(t, 2, 1, 300)
	w.call(0, "v0", mkdir("/a"), api.OK)
	w.do(api.Step{Kind: api.SFuse, N: 0}, api.OK)
	w.do(api.Step{Kind: api.SFuse, Rep: 1, N: 2}, api.OK)
	is(t, "calm", w.Calm(2), true)
	is(t, "Seen", w.state(1, "v0").Seen, api.Vector{1})
	w.call(0, "v0", mkdir("/b"), api.OK)
	w.kind(api.SCommit, 0, api.OK)
	w.kind(api.STick, 1, api.OK)
	w.do(api.Step{Kind: api.SDeliver}, api.OK)
	w.do(api.Step{Kind: api.SDouble}, api.OK)
	is(t, "calm", w.Calm(1), true)
}

// P21.3: what has another error is told; the others go on
func TestNotCalm(t *testing.T) {
	w := began(t, 3, 1, 70)
	for i := range 2 {
		for k := range 3 {
			w.call(i, "v0", mkdir("/"+string(rune('a'+i*3+k))), api.OK)
			w.kind(api.SCommit, i, api.OK)
		}
	}
	is(t, "no room", w.Calm(1), false)
	is(t, "Seen", w.state(2, "v0").Seen, api.Vector{})
	v := began(t, 3, 1, 70)
	v.call(0, "v0", mkdir("/a"), api.OK)
	w.kind(api.SCrash, 1, api.OK)
	is(t, "there is room", v.Calm(1), true)
	is(t, "Seen", v.state(2, "v0").Seen, api.Vector{1})
}

// P21.3: at most 5000 messages come, one behind the other
func TestManyMessages(t *testing.T) {
	t.Parallel()
	if testing.Short() {
		t.Skip("it takes its time")
	}
	w := much(t)
	came := func() int {
		on, sent, lost := w.Net()
		return sent - on - lost
	}
	was := came()
	is(t, "calm", w.Calm(1), false)
	// The others ask one another in vain; the last one is given more by each than can come.
	is(t, "messages", came()-was, 7*42+5000)
	if on, _, _ := w.Net(); on == 0 {
		t.Error("nothing is left")
	}
}

// much is a world in which all replicas but the last one have much.
func much(t *testing.T) world {
	t.Helper()
	w := began(t, 8, 3, 4096)
	for i := range 59 { // as many as there may be
		path := "/" + string(rune('a'+i%26)) + string(rune('a'+i/26))
		for vol := range 3 {
			for _, c := range []api.Call{
				{Kind: api.CCreate, Path: path}, {Kind: api.CWrite, Path: path, Data: strings.Repeat(path+"/", 256)},
				{Kind: api.CSetx, Path: path, To: strings.Repeat("x", 16), Data: strings.Repeat("x", 32)},
				{Kind: api.CSetx, Path: path, To: strings.Repeat("y", 16), Data: strings.Repeat("y", 32)},
			} {
				w.call(0, fs.Main(vol), c, api.OK)
			}
		}
		if i%4 == 3 || i == 58 {
			w.spread()
		}
	}
	return w
}

// spread has all but the last replica pull what the first one has, from it alone.
func (w world) spread() {
	w.Helper()
	w.kind(api.SCommit, 0, api.OK)
	for i := 1; i < 7; i++ {
		w.kind(api.STick, i, api.OK)
		on, _, _ := w.Net()
		for k := on - 1; k >= 0; k-- {
			if m, _ := w.Peek(k); m.To != 0 {
				w.do(api.Step{Kind: api.SDrop, N: k}, api.OK)
			}
		}
		w.come()
	}
}
