package view_test

import (
	"math/rand"
	"slices"
	"strconv"
	"testing"

	"crannog/api"
	"crannog/facts"
	"crannog/join"
	"crannog/vector"
	"crannog/view"
)

// replica is a volume as one has it, the same without any pruning, and what each other one is known to know.
type replica struct {
	state api.State
	whole api.State
	known [3]api.Vector
}

// history is replicas that change apart, and hear of one another.
type history struct {
	*rand.Rand
	reps [3]replica
}

func began(seed int) *history {
	h := &history{Rand: rand.New(rand.NewSource(int64(seed)))}
	for i := range h.reps {
		h.reps[i].state, h.reps[i].whole = facts.Empty(), facts.Empty()
	}
	return h
}

// dirs are the directories that show, the root among them.
func dirs(s api.State, l []api.Shown) []api.Stamp {
	out := []api.Stamp{root}
	for _, k := range l {
		if view.Kind(s, k.Node) == api.Dir {
			out = append(out, k.Node)
		}
	}
	return out
}

// touch adds to what an event writes the links on the way to a directory; false: this leads over one.
func touch(d *api.State, l []api.Shown, dir, past api.Stamp, v api.Vector) bool {
	for dir != root && dir != lost {
		if dir == past {
			return false
		}
		k := l[slices.IndexFunc(l, func(k api.Shown) bool { return k.Node == dir })]
		d.Links = append(d.Links, api.Link{Id: k.Link, Alive: v})
		dir = k.Parent
	}
	return true
}

// event is what one does: it makes, links, moves, unlinks or writes something; false: it can't.
func (h *history) event(r *replica, who int) (api.State, bool) {
	s := r.state
	l := view.Shown(s)
	id, _ := vector.Next(s.Seen, who)
	v := vector.With(api.Vector{}, id)
	d := api.State{Seen: v}
	all := dirs(s, l)
	dir := all[h.Intn(len(all))]
	k := api.Link{Id: id, Node: id, At: id, Parent: dir, Name: []string{"a", "b", "c"}[h.Intn(3)], Alive: v}
	taken := slices.ContainsFunc(l, func(m api.Shown) bool { return m.Parent == dir && m.Name == k.Name })
	what := h.Intn(8)
	if what > 1 && len(l) == 0 {
		return d, false
	}
	if what < 2 {
		n := api.Inode{Id: id, Kind: api.Dir, Attr: api.Attr{At: id, Time: 1 << 63}}
		if what == 1 {
			n.Kind, n.Size.At = api.File, id
		}
		d.Nodes, d.Links = []api.Inode{n}, []api.Link{k}
		return d, !taken && touch(&d, l, dir, id, v)
	}
	old := l[h.Intn(len(l))]
	switch what {
	case 2:
		k.Node = old.Node
		d.Links = []api.Link{k}
		return d, !taken && view.Kind(s, old.Node) != api.Dir && touch(&d, l, dir, id, v)
	case 3:
		k.Id, k.Node = old.Link, old.Node
		d.Links = []api.Link{k}
		return d, !taken && touch(&d, l, dir, old.Node, v)
	case 4, 5, 6:
		d.Links = []api.Link{{Id: old.Link, Dead: vector.With(s.Seen, id)}}
		return d, len(view.In(l, old.Node)) == 0
	}
	d.Links = []api.Link{{Id: old.Link, Alive: v}}
	d.Nodes = []api.Inode{{Id: old.Node, Attr: api.Attr{At: id, Time: 1 << 63, Mode: h.Intn(512)}}}
	return d, touch(&d, l, old.Parent, old.Link, v)
}

// step is one: somebody does something, hears of another one, or prunes. It tells what was pruned.
func (h *history) step() int {
	i, j := h.Intn(3), h.Intn(3)
	r, other := &h.reps[i], &h.reps[j]
	switch n := h.Intn(10); {
	case n < 6:
		if d, ok := h.event(r, i); ok {
			r.state, r.whole = join.States(r.state, d), join.States(r.whole, d)
		}
	case n < 9 && i != j:
		other.known[i] = vector.Join(other.known[i], r.state.Seen)
		r.known[j] = vector.Join(r.known[j], other.state.Seen)
		r.state, r.whole = join.Merge(r.state, other.state), join.States(r.whole, other.whole)
	case n == 9:
		return r.prune(i)
	}
	return 0
}

// prune prunes, as long as all that others are known to know is known here.
func (r *replica) prune(who int) int {
	stable := r.state.Seen
	for j, v := range r.known {
		if j == who {
			continue
		}
		if !vector.Within(v, r.state.Seen) {
			return 0
		}
		stable = vector.Meet(stable, v)
	}
	was := len(r.state.Links)
	r.state = join.Prune(r.state, stable)
	return was - len(r.state.Links)
}

// P11.2, P11.3, P11.6, P12.6, DOC, T2: whatever was pruned, by whomever, what shows is what the events make that are known.
func TestHistory(t *testing.T) {
	pruned, conflicts := 0, 0
	for seed := range 250 {
		h := began(seed)
		for range 120 {
			pruned += h.step()
			for i, r := range h.reps {
				what := "seed " + strconv.Itoa(seed) + ", replica " + strconv.Itoa(i)
				if facts.Check(r.whole) != api.OK || r.whole.Seen != r.state.Seen {
					t.Fatalf("%s: %v, and pruned %v", what, r.whole, r.state)
				}
				want := view.Shown(r.whole)
				shows(t, what, r.state, want...)
				conflicts += len(view.In(want, lost))
			}
			if t.Failed() {
				t.FailNow()
			}
		}
	}
	if pruned < 500 || conflicts < 500 {
		t.Errorf("%d were pruned, %d conflicts", pruned, conflicts)
	}
}

// P11.4, DOC, T2 and T5: when all have heard of all, all see the same, and nothing that is pruned comes back.
func TestHistoryEnds(t *testing.T) {
	for seed := range 250 {
		h := began(1000 + seed)
		for range 120 {
			h.step()
		}
		for range 2 {
			for i := range h.reps {
				for j := range h.reps {
					h.reps[i].state = join.Merge(h.reps[i].state, h.reps[j].state)
				}
			}
		}
		first := h.reps[0].state
		for i, r := range h.reps {
			if r.state.Seen != first.Seen || !slices.Equal(view.Shown(r.state), view.Shown(first)) {
				t.Fatalf("seed %d: 0 and %d see unlike things: %v, %v", seed, i, first, r.state)
			}
		}
		p := join.Prune(first, first.Seen)
		shows(t, "pruned", p, view.Shown(first)...)
		for _, r := range h.reps {
			if m := join.Merge(r.state, p); !facts.Same(m, p) || !facts.Same(join.Merge(p, r.state), p) {
				t.Fatalf("seed %d: %v, pruned %v, merged %v", seed, r.state, p, m)
			}
		}
		for _, k := range p.Links {
			if !slices.ContainsFunc(view.Shown(p), func(n api.Shown) bool { return n.Link == k.Id }) {
				t.Fatalf("seed %d: %v does not show, all know it, and it is there", seed, k)
			}
		}
	}
}
