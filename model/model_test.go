package model_test

import (
	"math"
	"math/rand"
	"slices"
	"strings"
	"testing"

	"crannog/api"
	"crannog/calls"
	"crannog/cluster"
	"crannog/facts"
	"crannog/join"
	"crannog/model"
	"crannog/query"
	"crannog/vector"
	"crannog/view"
)

func is[T comparable](t *testing.T, what string, got, want T) {
	t.Helper()
	if got != want {
		t.Errorf("%s: %v, want %v", what, got, want)
	}
}

func at(time, who int) api.Stamp { return api.Stamp{Time: time, Who: who} }

// ats is what tells events from one another.
func ats(l []api.Event) []api.Stamp {
	var out []api.Stamp
	for _, e := range l {
		out = append(out, e.At)
	}
	return out
}

func those(t *testing.T, what string, l []api.Event, want ...api.Stamp) {
	t.Helper()
	if got := ats(l); !slices.Equal(got, want) {
		t.Errorf("%s: %v, want %v", what, got, want)
	}
}

// history is what replicas did to a volume, some of it unheard of one another; their states, too.
func history(seed, reps, steps int) ([]api.Event, []api.State) {
	r := rand.New(rand.NewSource(int64(seed)))
	states := slices.Repeat([]api.State{facts.Empty()}, reps)
	var l []api.Event
	for range steps {
		i, j := r.Intn(reps), r.Intn(reps)
		if r.Intn(6) == 0 {
			states[i] = join.Merge(states[i], states[j])
			continue
		}
		paths := []string{"/"}
		for _, f := range query.Tree(states[i]) {
			paths = append(paths, f.Path)
		}
		path := func() string { return paths[r.Intn(len(paths))] }
		c := api.Call{Kind: 1 + r.Intn(13), Path: path(), To: strings.TrimSuffix(path(), "/") + "/" + string(rune('a'+r.Intn(3)))}
		if c.Kind == api.CMkdir || c.Kind == api.CCreate || c.Kind == api.CSymlink || r.Intn(4) == 0 {
			c.Kind, c.Path, c.To = 1+r.Intn(2), c.To, "x"
		}
		if c.Kind == api.CSetx || c.Kind == api.CDelx {
			c.To = "x"
		}
		c.N, c.Data = r.Intn(300), strings.Repeat(string(rune('a'+r.Intn(3))), r.Intn(33))
		if ans, out := calls.Do(states[i], i, c); ans.Err == api.OK && out.Seen != (api.Vector{}) {
			id, _ := vector.Next(states[i].Seen, i)
			l = append(l, api.Event{At: id, Knew: states[i].Seen, Delta: out})
			states[i] = join.States(states[i], out)
		}
	}
	return l, states
}

// P22.1
func TestKnown(t *testing.T) {
	var l []api.Event
	for _, c := range []struct {
		at  api.Stamp
		vol int
	}{{at(3, 1), 0}, {at(1, 0), 0}, {at(2, 0), 1}, {at(2, 0), 0}, {at(1, 1), 0}, {at(3, 1), 0}, {at(0, 0), 0}, {at(1, 8), 0}, {at(1, -1), 0}, {at(-1, 0), 0}, {at(1, 2), -5}} {
		l = append(l, api.Event{At: c.at, Vol: c.vol})
	}
	those(t, "of nothing", model.Known(l, 0, api.Vector{}))
	those(t, "of all", model.Known(l, 0, api.Vector{9, 9, 9}), at(3, 1), at(1, 0), at(2, 0), at(1, 1), at(3, 1))
	those(t, "of some", model.Known(l, 0, api.Vector{1, 2}), at(1, 0), at(1, 1))
	those(t, "of just those", model.Known(l, 0, api.Vector{2, 3}), at(3, 1), at(1, 0), at(2, 0), at(1, 1), at(3, 1))
	those(t, "of another volume", model.Known(l, 1, api.Vector{9, 9, 9}), at(2, 0))
	those(t, "of a volume that is none", model.Known(l, -5, api.Vector{9, 9, 9}), at(1, 2))
	those(t, "of no volume", model.Known(l, 2, api.Vector{9, 9, 9}))
	those(t, "of one that may not be", model.Known(l, 0, api.Vector{-1, math.MaxInt}), at(3, 1), at(1, 1), at(3, 1))
	those(t, "of none", model.Known(nil, 0, api.Vector{9}))
}

// P22.1, P22.3
func TestFold(t *testing.T) {
	for range 2 {
		s := model.Fold(nil)
		if !facts.Same(s, facts.Empty()) {
			t.Fatal(s)
		}
		s.Nodes[0].Attr.Mode = 1
	}
	for seed := range 60 {
		l, states := history(seed, 3, 60)
		all := facts.Empty()
		for _, s := range states {
			all = join.States(all, s)
		}
		s := model.Fold(l)
		if !facts.Same(s, all) || facts.Check(s) != api.OK {
			t.Fatal(seed, "is not what all know")
		}
		for i, state := range states {
			if !facts.Same(model.Fold(model.Known(l, 0, state.Seen)), state) {
				t.Error(seed, i, "is not what it knows")
			}
		}
		r := rand.New(rand.NewSource(int64(seed)))
		m := slices.Concat(l, l[:len(l)/2])
		r.Shuffle(len(m), func(i, j int) { m[i], m[j] = m[j], m[i] })
		if !facts.Same(model.Fold(m), s) {
			t.Error(seed, "hangs on the order")
		}
		// It is nobody's.
		for i := range s.Nodes {
			clear(s.Nodes[i].Pieces[:cap(s.Nodes[i].Pieces)])
			clear(s.Nodes[i].Xattrs[:cap(s.Nodes[i].Xattrs)])
		}
		clear(s.Nodes)
		clear(s.Links)
		if !facts.Same(model.Fold(l), all) {
			t.Error(seed, "shares something")
		}
	}
}

// P22.1
func TestBefore(t *testing.T) {
	ev := func(s api.Stamp, knew ...int) api.Event {
		e := api.Event{At: s}
		copy(e.Knew[:], knew)
		return e
	}
	for _, c := range []struct {
		a, b api.Event
		ok   bool
	}{
		{ev(at(1, 0)), ev(at(2, 1), 1), true}, {ev(at(1, 0)), ev(at(2, 1), 5), true}, {ev(at(2, 0)), ev(at(2, 1), 1), false}, {ev(at(1, 1)), ev(at(2, 0), 9), false},
		{ev(at(1, 1)), ev(at(2, 0), 0, 1), true}, {ev(at(2, 1), 1), ev(at(1, 0)), false}, {ev(at(1, 0)), ev(at(1, 0)), false}, {ev(at(1, 0)), ev(at(1, 0), 1), true},
		{ev(at(0, 0)), ev(at(1, 0), 1), false}, {ev(at(1, 8)), ev(at(1, 0), 9, 9, 9), false}, {ev(at(-1, 0)), ev(at(1, 0), 1), false}, {api.Event{}, api.Event{}, false},
		{ev(at(api.MaxTime, 0)), ev(at(1, 0), api.MaxTime), true}, {ev(at(api.MaxTime+1, 0)), ev(at(1, 0), math.MaxInt), false},
	} {
		is(t, "Before", model.Before(c.a, c.b), c.ok)
	}
	a, b := ev(at(1, 0)), ev(at(2, 1), 1)
	a.Vol = 2 // of which volume they are is not asked
	is(t, "Before", model.Before(a, b), true)
}

// P22.1
func TestWriters(t *testing.T) {
	id, other := at(4, 2), at(4, 3)
	node := func(n api.Inode) api.State { return api.State{Nodes: []api.Inode{{Id: other}, n}} }
	link := func(k api.Link) api.State { return api.State{Links: []api.Link{{Id: other}, k}} }
	var l []api.Event
	for i, s := range []api.State{
		{},
		node(api.Inode{Id: id, Attr: api.Attr{At: at(1, 0)}}),
		node(api.Inode{Id: id, Size: api.Size{At: at(1, 0)}}),
		node(api.Inode{Id: id, Attr: api.Attr{At: at(0, 1)}, Size: api.Size{At: at(0, -1)}}),
		node(api.Inode{Id: id, Attr: api.Attr{Mode: 5, Time: 6}, Size: api.Size{N: 7}, Kind: api.File}),
		node(api.Inode{Id: at(4, 1), Attr: api.Attr{At: at(1, 0)}, Size: api.Size{At: at(1, 0)}}),
		link(api.Link{Id: id, At: at(1, 0)}),
		link(api.Link{Id: id, Node: id, Name: "a", Parent: at(1, 0), Alive: api.Vector{1}, Dead: api.Vector{1}}),
		link(api.Link{Id: at(3, 2), Node: id, At: at(1, 0)}),
		{Nodes: []api.Inode{{Id: id}, {Id: id, Attr: api.Attr{At: at(1, 0)}}}, Links: []api.Link{{Id: id}, {Id: id, At: at(0, 1)}}},
	} {
		l = append(l, api.Event{At: at(i, 7), Vol: i, Delta: s})
	}
	those(t, "Attr", model.Writers(l, id, api.WAttr), at(1, 7), at(3, 7), at(9, 7))
	those(t, "Size", model.Writers(l, id, api.WSize), at(2, 7), at(3, 7))
	those(t, "place", model.Writers(l, id, api.WPlace), at(6, 7), at(9, 7))
	for _, what := range []int{0, 4, -1, math.MinInt, math.MaxInt} {
		those(t, "another", model.Writers(l, id, what))
	}
	for _, what := range []int{1, 2, 3} {
		those(t, "of nobody", model.Writers(l, at(4, 4), what))
		those(t, "of none", model.Writers(nil, id, what))
	}
	those(t, "of the root", model.Writers([]api.Event{{At: at(1, 1), Delta: api.State{Nodes: []api.Inode{{Attr: api.Attr{At: at(1, 1)}}}}}}, api.Stamp{}, api.WAttr), at(1, 1))
}

// P22.1
func TestLast(t *testing.T) {
	ev := func(s api.Stamp, vol int, knew ...int) api.Event {
		e := api.Event{At: s, Vol: vol}
		copy(e.Knew[:], knew)
		return e
	}
	for i, c := range []struct {
		l    []api.Event
		last int // its Vol; -1: none
	}{
		{nil, -1},
		{[]api.Event{ev(at(1, 0), 4)}, 4},
		{[]api.Event{{}}, 0},
		{[]api.Event{ev(at(1, 0), 1), ev(at(2, 0), 2, 1)}, 2},
		{[]api.Event{ev(at(2, 0), 2, 1), ev(at(1, 0), 1)}, 2},
		{[]api.Event{ev(at(1, 0), 1), ev(at(1, 1), 2)}, -1},
		{[]api.Event{ev(at(1, 0), 1), ev(at(2, 1), 2), ev(at(3, 2), 3, 1)}, -1},
		{[]api.Event{ev(at(1, 0), 1), ev(at(2, 1), 2), ev(at(3, 2), 3, 1, 2)}, 3},
		{[]api.Event{ev(at(1, 0), 1), ev(at(9, 1), 2), ev(at(2, 2), 3, 1, 9)}, 3},                                            // by what is known, not by times
		{[]api.Event{ev(at(1, 0), 1), ev(at(3, 2), 5, 1), ev(at(3, 2), 6, 1)}, 5},                                            // the first one
		{[]api.Event{ev(at(1, 0), 1), ev(at(3, 2), 5), ev(at(3, 2), 6, 1)}, 6},                                               // that knew the others
		{[]api.Event{ev(at(1, 0), 1, 0, 2), ev(at(2, 1), 2, 1)}, 1},                                                          // both knew one another
		{[]api.Event{ev(at(1, 0), 1), ev(at(0, 0), 2, 1), ev(at(2, 0), 3, 1)}, -1},                                           // what is no event is known by nobody
		{[]api.Event{ev(at(1, 0), 1), ev(at(1, 0), 2), ev(at(1, 0), 3)}, 1},                                                  // there are no others
		{[]api.Event{ev(at(5, 0), 1, 0, 0, 0), ev(at(6, 0), 2, 5), ev(at(7, 0), 3, 6), ev(at(8, 1), 4, 6)}, -1},              // two that did not know one another
		{[]api.Event{ev(at(5, 0), 1), ev(at(6, 0), 2, 5), ev(at(7, 0), 3, 6), ev(at(8, 1), 4, 6), ev(at(9, 2), 7, 7, 8)}, 7}, // one behind both
	} {
		e, ok := model.Last(c.l)
		if ok != (c.last >= 0) || ok && e.Vol != c.last || !ok && (e.At != api.Stamp{} || e.Vol != 0 || e.Knew != api.Vector{}) {
			t.Errorf("%d: %v, %v, want %d", i, e, ok, c.last)
		}
	}
}

// P22.1
func TestUnlinked(t *testing.T) {
	id := at(1, 0)
	ev := func(s api.Stamp, k api.Link, knew ...int) api.Event {
		e := api.Event{At: s, Delta: api.State{Links: []api.Link{{Id: at(9, 0), Alive: api.Vector{1}}, k}}}
		copy(e.Knew[:], knew)
		return e
	}
	alive := api.Link{Id: id, Alive: api.Vector{1}}
	dead := api.Link{Id: id, Dead: api.Vector{1}}
	for i, c := range []struct {
		l  []api.Event
		ok bool
	}{
		{nil, true}, // nobody did anything through it
		{[]api.Event{ev(at(1, 0), api.Link{Id: id})}, true},
		{[]api.Event{ev(at(1, 0), alive)}, false},
		{[]api.Event{ev(at(1, 0), dead)}, true},
		{[]api.Event{ev(at(1, 0), alive), ev(at(2, 0), dead, 1)}, true},
		{[]api.Event{ev(at(2, 0), dead, 1), ev(at(1, 0), alive)}, true},
		{[]api.Event{ev(at(1, 0), alive), ev(at(2, 1), dead)}, false},
		{[]api.Event{ev(at(1, 0), alive), ev(at(2, 0), dead, 1), ev(at(2, 1), alive, 1)}, false},
		{[]api.Event{ev(at(1, 0), alive), ev(at(2, 0), dead, 1), ev(at(2, 1), alive, 1), ev(at(3, 2), dead, 0, 2)}, true}, // each by one of them
		{[]api.Event{ev(at(1, 0), alive), ev(at(2, 0), api.Link{Id: at(8, 0), Dead: api.Vector{1}}, 1)}, false},
		{[]api.Event{ev(at(1, 0), api.Link{Id: at(8, 0), Alive: api.Vector{1}})}, true},
		{[]api.Event{ev(at(1, 0), api.Link{Id: id, Alive: api.Vector{7: 1}})}, false},
		{[]api.Event{ev(at(1, 0), api.Link{Id: id, At: id, Name: "a", Node: id})}, true},
		{[]api.Event{ev(at(1, 0), api.Link{Id: id, Alive: api.Vector{1}, Dead: api.Vector{1}}, 1)}, true}, // by itself, if it knew itself
		{[]api.Event{ev(at(1, 0), api.Link{Id: id, Alive: api.Vector{1}, Dead: api.Vector{1}})}, false},
		{[]api.Event{ev(at(0, 0), alive), ev(at(2, 0), dead, 1)}, false}, // what is no event is known by nobody
	} {
		if ok := model.Unlinked(c.l, id); ok != c.ok {
			t.Errorf("%d: %v", i, ok)
		}
	}
}

// P22.4, P22.5
func TestWhatFollows(t *testing.T) {
	lasts, dead := 0, 0
	for seed := range 150 {
		l, _ := history(1000+seed, 3, 80)
		s := model.Fold(l)
		last := func(id api.Stamp, what int, at api.Stamp) {
			if e, ok := model.Last(model.Writers(l, id, what)); ok {
				lasts++
				is(t, "the last one", at, e.At)
			}
		}
		for _, n := range s.Nodes {
			last(n.Id, api.WAttr, n.Attr.At)
			last(n.Id, api.WSize, n.Size.At)
		}
		shown := view.Shown(s)
		for _, k := range s.Links {
			last(k.Id, api.WPlace, k.At)
			if slices.ContainsFunc(shown, func(x api.Shown) bool { return x.Link == k.Id }) {
				continue
			}
			dead++
			is(t, "Unlinked", model.Unlinked(l, k.Id), true)
		}
	}
	if lasts < 1000 || dead < 100 {
		t.Error("too few:", lasts, dead)
	}
}

// P22.2
func TestRightAndEqual(t *testing.T) {
	both := func(w *cluster.World, i, vol int, right, equal bool) {
		t.Helper()
		is(t, "Right", model.Right(w, i, vol), right)
		is(t, "Equal", model.Equal(w, vol), equal)
	}
	for _, w := range []*cluster.World{nil, {}} {
		both(w, 0, 0, true, true)
		both(w, -1, 9, true, true)
	}
	w, err := cluster.New(3, 2, 600)
	if err != api.OK {
		t.Fatal(err)
	}
	do := func(s api.Step) {
		t.Helper()
		if a := w.Step(s); a.Err != api.OK {
			t.Fatal(s, a.Err)
		}
	}
	call := func(i int, vol, path string) {
		t.Helper()
		do(api.Step{Kind: api.SCall, Rep: i, Vol: vol, Call: api.Call{Kind: api.CMkdir, Path: path}})
	}
	both(w, 0, 0, true, true)
	call(0, "v0", "/a")
	both(w, 0, 0, true, false)
	both(w, 1, 1, true, true)
	call(1, "v0", "/b")
	both(w, 1, 0, true, false)
	do(api.Step{Kind: api.SCrash, Rep: 1})
	do(api.Step{Kind: api.SCrash, Rep: 2})
	both(w, 1, 0, true, true) // of those that have power there is one
	do(api.Step{Kind: api.SStart, Rep: 2})
	both(w, 2, 0, true, false)
	is(t, "calm", w.Calm(2), true)
	both(w, 2, 0, true, true)
	for _, c := range [][2]int{{3, 0}, {-1, 0}, {0, 2}, {0, -1}, {math.MaxInt, 0}, {0, math.MinInt + 3}} {
		both(w, c[0], c[1], true, true)
	}
	// A volume of one's own, by such a name, is none that the events make.
	do(api.Step{Kind: api.SClone, Vol: "v1", To: "v2"})
	both(w, 0, 2, true, true)
	do(api.Step{Kind: api.SClone, Vol: "v0", To: "v3"})
	both(w, 0, 3, false, true)
	do(api.Step{Kind: api.SClone, Rep: 1, Vol: "v1", To: "v3"})
	both(w, 1, 3, true, false)
	do(api.Step{Kind: api.SClone, Rep: 2, Vol: "v1", To: "v4"})
	call(2, "v4", "/a")
	is(t, "Right", model.Right(w, 2, 4), false)
	do(api.Step{Kind: api.SCall, Rep: 2, Vol: "v4", Call: api.Call{Kind: api.CRmdir, Path: "/a"}})
	is(t, "Right, of what shows the same, and knows more", model.Right(w, 2, 4), false)
	both(w, 0, 256, false, true) // the name is v0, the events are those of no volume
}

// DOC, Memory: what is handed in stays as it is
func TestMemory(t *testing.T) {
	l, _ := history(5, 2, 40)
	with := append(make([]api.Event, 0, len(l)+5), l...)
	spare := with[:cap(with)]
	was := model.Fold(l)
	for range 2 {
		k := model.Known(with, 0, was.Seen)
		is(t, "all", len(k), len(l))
		clear(k[:cap(k)])
		for _, n := range was.Nodes {
			m := model.Writers(with, n.Id, api.WAttr)
			clear(m[:cap(m)])
			model.Unlinked(with, n.Id)
		}
		model.Last(with)
	}
	if !slices.Equal(ats(with), ats(l)) || !facts.Same(model.Fold(with), was) {
		t.Error("it was changed")
	}
	for _, e := range spare[len(l):] {
		is(t, "the room behind it", e.At, api.Stamp{})
	}
}
