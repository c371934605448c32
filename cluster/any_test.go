package cluster_test

import (
	"math/rand"
	"slices"
	"strings"
	"testing"

	"crannog/api"
	"crannog/calls"
	"crannog/check"
	"crannog/facts"
	"crannog/fs"
	"crannog/join"
	"crannog/model"
	"crannog/query"
	"crannog/vector"
	"crannog/view"
)

// run is a world in which anything happens.
type run struct {
	world
	*rand.Rand
	crashes bool // whether the power goes now and then
}

func gone(t *testing.T, seed int) *run {
	t.Helper()
	r := rand.New(rand.NewSource(int64(seed)))
	reps, vols := 2+r.Intn(3), 1+r.Intn(3)
	if r.Intn(8) == 0 {
		reps = 8
	}
	blocks := []int{60, 150, 600, 3000}[r.Intn(4)]
	return &run{world: began(t, reps, vols, blocks), Rand: r, crashes: r.Intn(2) == 0}
}

// call is any, mostly one that is done.
func (g *run) anyCall(s api.State) api.Call {
	paths := []string{"/"}
	for _, f := range query.Tree(s) {
		if f.Node != view.Lost() {
			paths = append(paths, f.Path)
		}
	}
	path := func() string { return paths[g.Intn(len(paths))] }
	c := api.Call{Kind: 1 + g.Intn(19), Path: path(), To: strings.TrimSuffix(path(), "/") + "/" + string(rune('a'+g.Intn(3)))}
	if g.Intn(3) == 0 {
		c.Kind = []int{api.CMkdir, api.CCreate, api.CWrite, api.CUnlink, api.CRename, api.CRmdir}[g.Intn(6)]
	}
	switch c.Kind {
	case api.CMkdir, api.CCreate, api.CSymlink:
		c.Path, c.To = c.To, "x"
	case api.CSetx, api.CDelx, api.CGetx:
		c.To = string(rune('a' + g.Intn(2)))
	}
	c.N, c.Off, c.Data = g.Intn(512), g.Intn(100), strings.Repeat(string(rune('a'+g.Intn(3))), g.Intn(33))
	if g.Intn(4) == 0 {
		c.Data = strings.Repeat("d", g.Intn(925))
	}
	return c
}

// anyStep is any step.
func (g *run) anyStep() api.Step {
	reps, vols := g.Size()
	s := api.Step{Rep: g.Intn(reps), Vol: fs.Main(g.Intn(vols)), To: []string{"s", "c"}[g.Intn(2)]}
	on, _, _ := g.Net()
	if g.Intn(10) == 0 {
		s.Vol, s.To = s.To, "v0"
	}
	switch n := g.Intn(100); {
	case n < 35:
		s.Kind = api.SCall
		state, _ := g.State(s.Rep, s.Vol)
		s.Call = g.anyCall(state)
	case n < 43:
		s.Kind = api.STick
	case n < 78:
		s.Kind, s.N = api.SDeliver, g.Intn(2)*g.Intn(on+1)
	case n < 84:
		s.Kind = api.SCommit
	case n < 87:
		s.Kind = []int{api.SSnap, api.SClone, api.SDelete}[g.Intn(3)]
	case n < 91:
		s.Kind, s.N = []int{api.SDrop, api.SDouble}[g.Intn(2)], g.Intn(on+1)
	case n < 94 || !g.crashes:
		s.Kind = api.SPrune
	default:
		s.Kind = []int{api.SCrash, api.SFuse, api.SStart, api.SStart}[g.Intn(4)]
		s.N, s.Keep = g.Intn(12), g.Perm(60)[:g.Intn(60)]
	}
	return s
}

func (g *run) step() api.Answer { return g.Step(g.anyStep()) }

// alike tells whether those who know the same show the same, also if one has pruned it.
func (g *run) alike(vol int) {
	reps, _ := g.Size()
	for i := range reps {
		a, e := g.State(i, fs.Main(vol))
		for j := range i {
			b, f := g.State(j, fs.Main(vol))
			if e == api.OK && f == api.OK && a.Seen == b.Seen && !facts.Same(a, b) && !query.Alike(a, b) {
				g.Fatal("T2:", i, "and", j, "are not alike")
			}
		}
	}
}

// reached tells whether all that a replica knows happened, and is not gone.
func (g *run) reached() {
	reps, vols := g.Size()
	last := map[int]api.Vector{}
	for _, e := range g.Events() {
		last[e.Vol] = vector.With(last[e.Vol], e.At)
	}
	for i := range reps {
		for vol := range vols {
			if s, err := g.State(i, fs.Main(vol)); err == api.OK && !vector.Within(s.Seen, last[vol]) {
				g.Fatal("T4:", i, "knows what is gone:", s.Seen, last[vol])
			}
		}
	}
}

// T1, T2, T4, P21.4: at every step of any script
func TestAny(t *testing.T) {
	t.Parallel()
	errs := map[api.Errno]int{}
	for seed := range 120 {
		g := gone(t, seed)
		reps, vols := g.Size()
		for range 120 {
			s := g.anyStep()
			was, _ := g.State(s.Rep, s.Vol)
			a := g.Step(s)
			errs[a.Err]++
			if s.Kind != api.SCall && !calls.Same(a, api.Answer{Err: a.Err}) {
				t.Fatal(seed, s, a)
			}
			now, err := g.State(s.Rep, s.Vol)
			if a.Err != api.OK && s.Kind != api.SDeliver && err == api.OK && s.Kind != api.SStart && !facts.Same(now, was) {
				t.Fatal(seed, s, a.Err, "has changed something")
			}
			g.reached()
			for vol := range vols {
				for i := range reps {
					if !model.Right(g.World, i, vol) {
						t.Fatal("seed", seed, s, a.Err, "replica", i, "volume", vol)
					}
				}
				g.alike(vol)
			}
		}
	}
	for _, e := range []api.Errno{api.OK, api.ENOENT, api.EIO, api.EBUSY, api.EEXIST, api.EINVAL, api.ENOSPC, api.EROFS, api.ESTALE} {
		if errs[e] == 0 {
			t.Error("never:", e)
		}
	}
	if errs[api.EFORM] > 0 {
		t.Error("EFORM where nobody told anything that can't be:", errs[api.EFORM])
	}
}

// T5: in quiet all meet, as long as there is room; what lies on the devices is as it should be
func TestInTheEnd(t *testing.T) {
	t.Parallel()
	calms := 0
	for seed := range 150 {
		g := gone(t, 5000+seed)
		for range 150 {
			g.step()
		}
		room := g.Device(0).Size() == 3000
		ok := g.Calm(4)
		if room && !ok {
			t.Error("seed", seed, "there was room")
		}
		reps, vols := g.Size()
		for vol := range vols {
			if ok && !model.Equal(g.World, vol) {
				t.Error("seed", seed, "volume", vol, "does not meet")
			}
			g.alike(vol)
		}
		for i := range reps {
			d := g.Device(i)
			d.Crash()
			d.Start()
			r, err := check.Device(d)
			if err != api.OK || r.Who != i || len(r.Vols) != len(g.Vols(i)) {
				t.Error("seed", seed, i, r, err)
			}
		}
		if ok {
			calms++
		}
	}
	if calms < 50 {
		t.Error("calm just", calms)
	}
}

// T3: nothing is lost that nobody took away
func TestNothingIsLost(t *testing.T) {
	t.Parallel()
	looked := map[int]int{}
	for seed := range 40 {
		g := gone(t, 9000+seed)
		_, vols := g.Size()
		for range 100 {
			g.step()
		}
		g.Calm(2)
		for vol := range vols {
			s := g.state(0, fs.Main(vol))
			g.writers(s, model.Known(g.Events(), vol, s.Seen), looked)
		}
	}
	for what := api.WAttr; what <= api.WPlace; what++ {
		if looked[what] < 50 {
			t.Error("too few looked at", looked)
		}
	}
	if looked[0] < 20 {
		t.Error("too few links that do not show", looked)
	}
}

// writers holds a state against the events that made it.
func (g *run) writers(s api.State, l []api.Event, looked map[int]int) {
	last := func(id api.Stamp, what int, at api.Stamp) {
		if e, ok := model.Last(model.Writers(l, id, what)); ok {
			looked[what]++
			if e.At != at {
				g.Error("T3:", id, what, "is", at, "and not", e.At)
			}
		}
	}
	for _, n := range s.Nodes {
		last(n.Id, api.WAttr, n.Attr.At)
		last(n.Id, api.WSize, n.Size.At)
	}
	shown := view.Shown(s)
	for _, k := range s.Links {
		last(k.Id, api.WPlace, k.At)
	}
	for _, e := range l {
		for _, k := range e.Delta.Links {
			shows := slices.ContainsFunc(shown, func(x api.Shown) bool { return x.Link == k.Id })
			if !shows {
				looked[0]++
			}
			if !shows && !model.Unlinked(l, k.Id) {
				g.Error("T3:", k.Id, "does not show")
			}
		}
	}
	for _, x := range shown {
		i := slices.IndexFunc(s.Links, func(k api.Link) bool { return k.Id == x.Link })
		k := s.Links[i]
		taken := slices.ContainsFunc(shown, func(o api.Shown) bool {
			j := slices.IndexFunc(s.Links, func(m api.Link) bool { return m.Id == o.Link })
			m := s.Links[j]
			return m.Id != k.Id && m.Parent == k.Parent && m.Name == k.Name && vector.Less(k.At, m.At)
		})
		if x.Odd && !taken && !g.round(s, k) {
			g.Error("T3:", x, "is off its place")
		}
		if !x.Odd && (x.Parent != k.Parent || x.Name != k.Name) {
			g.Error("T3:", x, "does not stand where it was placed")
		}
	}
}

// round tells whether a link lies below itself.
func (g *run) round(s api.State, k api.Link) bool {
	at := k
	for range s.Links {
		i := slices.IndexFunc(s.Links, func(m api.Link) bool { return m.Node == at.Parent })
		if i < 0 {
			return false
		}
		if at = s.Links[i]; at.Id == k.Id {
			return true
		}
	}
	return false
}

// T1, DOC: ten examples of the whole, those of merges
func TestExamples(t *testing.T) {
	w := began(t, 2, 1, 1500)
	both := func(a, b api.Call) {
		t.Helper()
		w.call(0, "v0", a, api.OK)
		w.call(1, "v0", b, api.OK)
		is(t, "calm", w.Calm(2), true)
	}
	names := func(path string, l ...string) {
		t.Helper()
		for i := range 2 {
			if a := w.call(i, "v0", api.Call{Kind: api.CList, Path: path}, api.OK); !slices.Equal(a.Names, l) {
				t.Error(i, path, a.Names, l)
			}
		}
	}
	data := func(path, s string) {
		t.Helper()
		for i := range 2 {
			is(t, path, w.call(i, "v0", api.Call{Kind: api.CRead, Path: path, N: 1024}, api.OK).Data, s)
		}
	}
	both(mkdir("/a"), mkdir("/a")) // 1
	names("/", ".lost", "a")
	names("/.lost", "c1-0")
	w.call(0, "v0", api.Call{Kind: api.CRmdir, Path: "/.lost/c1-0"}, api.OK)
	w.call(0, "v0", api.Call{Kind: api.CCreate, Path: "/f"}, api.OK)
	is(t, "calm", w.Calm(2), true)
	both(api.Call{Kind: api.CUnlink, Path: "/f"}, api.Call{Kind: api.CWrite, Path: "/f", Data: strings.Repeat("d", 65)}) // 2
	data("/f", strings.Repeat("d", 65))
	both(api.Call{Kind: api.CRmdir, Path: "/a"}, api.Call{Kind: api.CCreate, Path: "/a/g"}) // 3
	names("/a", "g")
	both(api.Call{Kind: api.CWrite, Path: "/f", Data: strings.Repeat("x", 64)}, api.Call{Kind: api.CWrite, Path: "/f", Off: 64, Data: "y"}) // 5: unlike pieces
	data("/f", strings.Repeat("x", 64)+"y")
	both(api.Call{Kind: api.CWrite, Path: "/f", Data: "0"}, api.Call{Kind: api.CWrite, Path: "/f", Data: "1"}) // one piece
	data("/f", "1"+strings.Repeat("x", 63)+"y")
	w.call(0, "v0", mkdir("/x"), api.OK)
	w.call(0, "v0", mkdir("/y"), api.OK)
	is(t, "calm", w.Calm(2), true)
	both(api.Call{Kind: api.CRename, Path: "/x", To: "/y/x"}, api.Call{Kind: api.CRename, Path: "/y", To: "/x/y"}) // 4
	names("/", ".lost", "a", "f")
	lost := w.call(0, "v0", api.Call{Kind: api.CList, Path: "/.lost"}, api.OK).Names
	if len(lost) != 1 {
		t.Fatal(lost)
	}
	names("/.lost/"+lost[0], "x")
	for i := range 2 { // 9, 10
		w.call(i, "v0", api.Call{Kind: api.CUnlink, Path: "/f"}, api.Errno(2*i))
		is(t, "calm", w.Calm(2), true)
		was := w.state(i, "v0")
		w.do(api.Step{Kind: api.SPrune, Rep: i, Vol: "v0"}, api.OK)
		now := w.state(i, "v0")
		if !query.Alike(was, now) || len(now.Links) >= len(was.Links) && i == 0 || !facts.Same(join.Merge(was, now), now) {
			t.Error(i, len(was.Links), len(now.Links))
		}
	}
	w.kind(api.SSnap, 0, api.OK)
	w.do(api.Step{Kind: api.SClone, Vol: "x", To: "c"}, api.OK)
	w.call(0, "x", mkdir("/new"), api.EROFS)
	w.call(0, "c", mkdir("/new"), api.OK)
	w.call(0, "v0", stat("/new"), api.ENOENT)
	w.call(0, "x", stat("/new"), api.ENOENT)
}
