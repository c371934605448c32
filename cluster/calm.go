package cluster

import "crannog/api"

const (
	mostRounds = 100
	mostCome   = 5000 // messages, one behind the other, till it is no calm any more
)

// calm is a world that comes to rest, and whether nothing was in the way so far.
type calm struct {
	*World
	ok bool
}

// Calm lets all replicas have power, commit, and pull so many times, and all messages come; false: something was refused.
func (w *World) Calm(rounds int) bool {
	if !w.made() {
		return false
	}
	c := &calm{World: w, ok: true}
	for i := range w.reps {
		c.wake(i)
	}
	for range min(rounds, mostRounds) {
		c.come()
		for i := range w.reps {
			c.do(api.Step{Kind: api.STick, Rep: i})
			c.come()
		}
	}
	return c.ok
}

// do does a step. What came too late to be of use is in nobody's way.
func (c *calm) do(s api.Step) {
	if err := c.Step(s).Err; err != api.OK && err != api.ESTALE {
		c.ok = false
	}
}

// wake has a replica have power, that nothing takes, and keep what it has.
func (c *calm) wake(i int) {
	if !c.reps[i].lit() {
		c.do(api.Step{Kind: api.SStart, Rep: i})
	}
	c.do(api.Step{Kind: api.SFuse, Rep: i, N: -1})
	c.do(api.Step{Kind: api.SCommit, Rep: i})
}

// come has all messages come, and those that are said then.
func (c *calm) come() {
	for range mostCome {
		if on, _, _ := c.Net(); on == 0 {
			return
		}
		c.do(api.Step{Kind: api.SDeliver})
	}
	if on, _, _ := c.Net(); on > 0 {
		c.ok = false
	}
}
