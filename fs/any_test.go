package fs_test

import (
	"maps"
	"math/rand"
	"slices"
	"strings"
	"testing"

	"crannog/api"
	"crannog/calls"
	"crannog/check"
	"crannog/dev"
	"crannog/diff"
	"crannog/facts"
	"crannog/fs"
	"crannog/join"
	"crannog/names"
	"crannog/query"
)

// vol is a volume as it should be.
type vol struct {
	kind  int
	state api.State
}

// pair is a file system, its device, and what it should be, now and as of the last commit.
type pair struct {
	*rand.Rand
	d    *dev.Dev
	f    *fs.Fs
	who  int
	boot int
	now  map[string]vol
	kept map[string]vol
	held map[int]api.State // trees that are held by who asks
}

func began(t *testing.T, seed, blocks int) *pair {
	t.Helper()
	r := rand.New(rand.NewSource(int64(seed)))
	p := &pair{Rand: r, who: r.Intn(8), boot: 1, now: map[string]vol{}, held: map[int]api.State{}}
	mains := 1 + r.Intn(3)
	p.d, p.f = formatted(t, blocks, p.who, mains)
	for i := range mains {
		p.now[fs.Main(i)] = vol{api.VolMain, facts.Empty()}
	}
	p.kept = maps.Clone(p.now)
	return p
}

// one is any of a list.
func one[T any](p *pair, l ...T) T { return l[p.Intn(len(l))] }

// name is mostly one of a volume.
func (p *pair) name() string {
	if p.Intn(12) == 0 {
		return one(p, "x", "y", "z", "", "..", "v9", "seventeen bytes..")
	}
	return one(p, slices.Sorted(maps.Keys(p.now))...)
}

// call is any.
func (p *pair) call(s api.State) api.Call {
	paths := []string{"/", "/none"}
	for _, f := range query.Tree(s) {
		paths = append(paths, f.Path)
	}
	c := api.Call{Kind: 1 + p.Intn(19), Path: one(p, paths...), To: strings.TrimSuffix(one(p, paths...), "/") + "/" + one(p, "a", "b", "c")}
	if p.Intn(2) == 0 {
		c.Kind = one(p, api.CMkdir, api.CCreate, api.CWrite)
	}
	if c.Kind == api.CMkdir || c.Kind == api.CCreate || c.Kind == api.CSymlink {
		c.Path, c.To = c.To, "to"
	}
	c.N, c.Off, c.Data = p.Intn(512), p.Intn(300), strings.Repeat("d", p.Intn(100))
	return c
}

// asked is what a volume of some name answers that is to have another state: free, levels and changes tell.
func (p *pair) asked(name string, to api.State) api.Errno {
	levels, _ := p.f.Levels(name)
	l := diff.Lists(facts.Entries(p.now[name].state), facts.Entries(to))
	if p.f.Free() < fs.Need(len(l), levels) {
		return api.ENOSPC
	}
	return api.OK
}

// step is one: what was asked, what it answered, and what it should have. What is done is done to both.
func (p *pair) step() (what string, got, want api.Errno) {
	switch n := p.Intn(100); {
	case n < 45:
		return p.doCall()
	case n < 60:
		return p.doPut()
	case n < 74:
		return p.doBranch()
	case n < 82:
		return p.doDelete()
	case n < 92:
		p.kept = maps.Clone(p.now)
		return "commit", p.f.Commit(), api.OK
	}
	return p.doTree()
}

func (p *pair) doCall() (string, api.Errno, api.Errno) {
	name := p.name()
	v, ok := p.now[name]
	c := p.call(v.state)
	want, out := calls.Do(v.state, p.who, c)
	changes := !facts.Same(out, api.State{})
	next := join.States(v.state, out)
	switch {
	case !ok:
		want = api.Answer{Err: api.ENOENT}
	case changes && v.kind == api.VolSnap:
		want = api.Answer{Err: api.EROFS}
	case changes:
		want.Err = p.asked(name, next)
	}
	ans, wrote := p.f.Call(name, c)
	if ans.Err == api.OK && want.Err == api.OK {
		if !calls.Same(ans, want) || !facts.Same(wrote, out) {
			return "another answer of a call", api.EFORM, api.OK
		}
		if changes {
			p.now[name] = vol{v.kind, next}
		}
	} else if !facts.Same(wrote, api.State{}) {
		return "a refused call wrote", api.EFORM, api.OK
	}
	return "call", ans.Err, want.Err
}

func (p *pair) doPut() (string, api.Errno, api.Errno) {
	name := p.name()
	v, ok := p.now[name]
	s := p.now[one(p, slices.Sorted(maps.Keys(p.now))...)].state
	switch p.Intn(8) {
	case 0:
		s = facts.Empty()
	case 1:
		s = api.State{}
	case 2, 3, 4:
		s = join.Merge(s, v.state)
	case 5:
		s = join.Prune(v.state, v.state.Seen)
	}
	want := api.OK
	switch {
	case !ok:
		want = api.ENOENT
	case v.kind == api.VolSnap:
		want = api.EROFS
	case facts.Check(s) != api.OK:
		want = api.EINVAL
	default:
		want = p.asked(name, s)
	}
	got := p.f.Put(name, s)
	if got == api.OK {
		p.now[name] = vol{v.kind, s}
	}
	return "put", got, want
}

func (p *pair) doBranch() (string, api.Errno, api.Errno) {
	from, name, own := p.name(), p.name(), 0
	if p.Intn(3) > 0 {
		name = one(p, "a", "b", "s", "t", "w", "zz", "v00")
	}
	for _, v := range p.now {
		if v.kind != api.VolMain {
			own++
		}
	}
	_, there := p.now[from]
	_, taken := p.now[name]
	want := names.Good(name)
	switch {
	case !there:
		want = api.ENOENT
	case want != api.OK:
	case taken:
		want = api.EEXIST
	case own >= 6 || p.f.Free() < 3:
		want = api.ENOSPC
	}
	v, do := vol{api.VolSnap, p.now[from].state}, p.f.Snap
	if p.Intn(2) == 0 {
		v.kind, do = api.VolClone, p.f.Clone
	}
	got := do(from, name)
	if got == api.OK {
		p.now[name] = v
	}
	return "branch", got, want
}

func (p *pair) doDelete() (string, api.Errno, api.Errno) {
	name := p.name()
	v, ok := p.now[name]
	want := api.OK
	switch {
	case !ok:
		want = api.ENOENT
	case v.kind == api.VolMain:
		want = api.EPERM
	}
	got := p.f.Delete(name)
	if got == api.OK {
		delete(p.now, name)
	}
	return "delete", got, want
}

// doTree holds what was kept, grows another tree from there, or drops one.
func (p *pair) doTree() (string, api.Errno, api.Errno) {
	if len(p.held) > 0 && p.Intn(2) == 0 {
		root := one(p, slices.Sorted(maps.Keys(p.held))...)
		delete(p.held, root)
		return "drop", p.f.Drop(root), api.OK
	}
	name := fs.Main(p.Intn(2))
	root, _, err := p.f.Kept(name)
	if _, again := p.held[root]; again || err != api.OK {
		return "nothing", api.OK, api.OK
	}
	if p.Intn(2) == 0 {
		p.held[root] = p.kept[name].state
		return "hold", p.f.Hold(root), api.OK
	}
	to := p.now[one(p, slices.Sorted(maps.Keys(p.now))...)].state
	l := diff.Lists(facts.Entries(p.kept[name].state), facts.Entries(to))
	free := p.f.Free()
	grown, err := p.f.Grow(root, l)
	// Of what was kept the levels are not told: few here.
	switch {
	case err == api.OK && free < fs.Need(len(l), 1) || err == api.ENOSPC && free >= fs.Need(len(l), 4):
		return "grow, whatever room there is", api.EFORM, err
	case err == api.OK && grown == root:
		return "drop", p.f.Drop(grown), api.OK
	case err == api.OK:
		p.held[grown] = to
	}
	return "grow", err, err
}

// right tells whether the file system is what it should be, at some time; empty: it is.
func (p *pair) right(now map[string]vol) string {
	who, boot, mains := p.f.Own()
	l := p.f.Vols()
	if who != p.who || boot != p.boot || len(l) != len(now) {
		return "whose, boot or volumes"
	}
	for i, name := range slices.Sorted(maps.Keys(now)) {
		v := now[name]
		if v.kind == api.VolMain {
			mains--
			root, seen, err := p.f.Kept(name)
			s, e := p.f.Load(root)
			if seen != p.kept[name].state.Seen || err != api.OK || e != api.OK && e != api.EIO || e == api.OK && !facts.Same(s, p.kept[name].state) {
				return "what is kept of " + name
			}
		}
		s, err := p.f.State(name)
		if err != api.OK || !facts.Same(s, v.state) || l[i] != (api.Vol{Name: name, Kind: v.kind, Seen: s.Seen}) {
			return "volume " + name
		}
	}
	for root, s := range p.held {
		if x, err := p.f.Load(root); err != api.EIO && (err != api.OK || !facts.Same(x, s)) {
			return "a tree that is held"
		}
	}
	if mains != 0 {
		return "how many volumes all have"
	}
	return ""
}

// reopen opens what a crash has left.
func (p *pair) reopen(t *testing.T) {
	t.Helper()
	restart(p.d, slices.DeleteFunc(p.d.Dirty(), func(int) bool { return p.Intn(2) == 0 })...)
	p.f = opened(t, p.d)
	p.boot++
	clear(p.held)
}

// P15.3 to P15.9: any calls, held against what they should make; behind a crash all is as of the last commit.
func TestAnyCalls(t *testing.T) {
	seen := map[string]int{}
	for seed := range 200 {
		p := began(t, seed, 40+seed*3/2)
		for i := range 200 {
			if p.Intn(25) == 0 {
				p.reopen(t)
				p.now = maps.Clone(p.kept)
			}
			free := p.f.Free()
			what, got, want := p.step()
			if got != want {
				t.Fatalf("seed %d, %d: %s: %v, want %v", seed, i, what, got, want)
			}
			if got != api.OK && p.f.Free() != free {
				t.Fatalf("seed %d, %d: %s, refused: %d are free, not %d", seed, i, what, p.f.Free(), free)
			}
			if why := p.right(p.now); why != "" {
				t.Fatalf("seed %d, %d: %s: %s", seed, i, what, why)
			}
			seen[what+" "+got.Error()]++
			if what == "commit" {
				p.looked(t)
			}
		}
	}
	for _, what := range []string{"call error 0", "call error 2", "call error 17", "call error 28", "call error 30", "put error 0", "put error 2", "put error 22", "put error 28", "put error 30", "branch error 0", "branch error 2", "branch error 17", "branch error 22", "branch error 28", "branch error 36", "delete error 0", "delete error 1", "delete error 2", "grow error 0", "grow error 28", "hold error 0", "drop error 0"} {
		if seen[what] < 20 {
			t.Errorf("%s: %d times", what, seen[what])
		}
	}
}

// looked looks through the device: what a commit left there is just what there should be.
func (p *pair) looked(t *testing.T) {
	t.Helper()
	r, err := check.Device(p.d)
	if err != api.OK || len(r.Vols) != len(p.now) || r.Free < p.f.Free() || len(p.held) == 0 && r.Free != p.f.Free() {
		t.Fatal(err, r, p.f.Free())
	}
	for _, v := range r.Vols {
		if levels, _ := p.f.Levels(v.Name); levels != v.Levels {
			t.Fatal(v, levels)
		}
	}
}

// P15.4, P15.5, P15.7, DOC, T4: wherever the power goes all is as it was; behind it all is as of the last commit, or of that in which it went.
func TestAnyPower(t *testing.T) {
	went, late := map[string]int{}, 0
	for seed := range 300 {
		p := began(t, 1000+seed, 150+seed)
		for i := range 80 {
			fused := p.Intn(4) == 0 // not too often: there is more to be lost then
			if fused {
				p.d.Fuse(one(p, 0, 0, 1, 2, 2, 3, p.Intn(12)))
			}
			now, kept, held, free := maps.Clone(p.now), maps.Clone(p.kept), maps.Clone(p.held), p.f.Free()
			what, got, want := p.step()
			if !fused || got != api.EIO {
				p.d.Fuse(-1)
				if got != want {
					t.Fatalf("seed %d, %d: %s: %v, want %v", seed, i, what, got, want)
				}
				continue
			}
			went[what]++
			p.now, p.kept, p.held = now, kept, held
			if why := p.right(now); why != "" || p.f.Free() != free {
				t.Fatalf("seed %d, %d: %s, without power: %s; %d are free, not %d", seed, i, what, why, p.f.Free(), free)
			}
			p.off(t)
			p.reopen(t)
			if what == "commit" && p.right(kept) != "" {
				p.kept = now
				late++
			}
			p.now = maps.Clone(p.kept)
			if why := p.right(p.now); why != "" {
				t.Fatalf("seed %d, %d: %s, behind it: %s", seed, i, what, why)
			}
		}
	}
	for _, what := range []string{"call", "put", "branch", "delete", "commit", "grow"} {
		if went[what] < 20 {
			t.Errorf("the power went %d times in %s", went[what], what)
		}
	}
	if late < 10 || late > went["commit"]-20 {
		t.Errorf("%d of %d commits were kept", late, went["commit"])
	}
}

// off tells that without power nothing is done.
func (p *pair) off(t *testing.T) {
	t.Helper()
	want(t, "Commit", p.f.Commit(), api.EIO)
	want(t, "Delete", p.f.Delete("none"), api.ENOENT)
	for name, v := range p.now {
		if v.kind != api.VolMain {
			want(t, "Delete", p.f.Delete(name), api.EIO)
		} else if len(p.now) < 4 && p.f.Free() >= 3 {
			want(t, "Snap", p.f.Snap(name, "new"), api.EIO)
			want(t, "Clone", p.f.Clone(name, "new"), api.EIO)
		}
		if ans, _ := p.f.Call(name, api.Call{Kind: api.CStat, Path: "/"}); ans.Err != api.OK {
			t.Error("a question is answered yet:", ans.Err)
		}
		if ans, _ := p.f.Call(name, mkdir("/new")); ans.Err != api.EIO && ans.Err != api.EROFS && ans.Err != api.ENOSPC {
			t.Error("mkdir without power:", ans.Err)
		}
	}
	if why := p.right(p.now); why != "" {
		t.Error("without power:", why)
	}
}

// P15.8: on devices of any size, till nothing more goes: Commit, Open and Delete do, and give room back.
func TestFull(t *testing.T) {
	for blocks := 27; blocks < 140; blocks += 3 {
		d, f := formatted(t, blocks, 1, 1)
		r := rand.New(rand.NewSource(int64(blocks)))
		own := []string{}
		for i := range 100 {
			path := "/" + string(rune('a'+i%20))
			f.Call("v0", api.Call{Kind: api.CCreate, Path: path})
			f.Call("v0", api.Call{Kind: api.CChmod, Path: path, N: i})
			for f.Snap("v0", "s"+string(rune('0'+len(own)))) == api.OK {
				own = append(own, "s"+string(rune('0'+len(own))))
				f.Call("v0", api.Call{Kind: api.CUtime, Path: "/", Time: float64(i)})
			}
			switch r.Intn(8) {
			case 0:
				want(t, "Commit", f.Commit(), api.OK)
			case 1:
				restart(d)
				f = opened(t, d)
				own = own[:0]
				for _, v := range f.Vols() {
					if v.Kind != api.VolMain {
						own = append(own, v.Name)
					}
				}
			case 2, 3:
				for ; len(own) > r.Intn(6); own = own[:len(own)-1] {
					want(t, "Delete", f.Delete(own[len(own)-1]), api.OK)
				}
			}
			if t.Failed() {
				t.Fatal(blocks, i, f.Free())
			}
		}
		for _, v := range f.Vols()[:len(own)] {
			want(t, "Delete", f.Delete(v.Name), api.OK)
		}
		want(t, "Commit", f.Commit(), api.OK)
		if rep, err := check.Device(d); err != api.OK || f.Free() != rep.Free || rep.Free != blocks-2-1-rep.Vols[0].Own {
			t.Fatal(rep, err, f.Free())
		}
	}
}
