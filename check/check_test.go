package check_test

import (
	"math"
	"math/rand"
	"slices"
	"strconv"
	"strings"
	"testing"

	"crannog/api"
	"crannog/calls"
	"crannog/check"
	"crannog/crc"
	"crannog/dev"
	"crannog/diff"
	"crannog/facts"
	"crannog/fs"
	"crannog/join"
	"crannog/query"
	"crannog/store"
	"crannog/tree"
	"crannog/view"
)

func want(t *testing.T, what string, got, want api.Errno) {
	t.Helper()
	if got != want {
		t.Errorf("%s: %v, want %v", what, got, want)
	}
}

func device(t *testing.T, n int) *dev.Dev {
	t.Helper()
	d, err := dev.New(n)
	if err != api.OK {
		t.Fatal(err)
	}
	return d
}

func formatted(t *testing.T, n, who, vols int) (*dev.Dev, *fs.Fs) {
	t.Helper()
	d := device(t, n)
	f, err := fs.Format(d, who, vols)
	if err != api.OK {
		t.Fatal(err)
	}
	return d, f
}

// found is what is found on a device.
func found(t *testing.T, d *dev.Dev) api.Report {
	t.Helper()
	r, err := check.Device(d)
	if err != api.OK {
		t.Fatal(err)
	}
	return r
}

// none tells that a device has an error.
func none(t *testing.T, what string, d *dev.Dev, e api.Errno) {
	t.Helper()
	r, err := check.Device(d)
	if err != e || !check.Same(r, api.Report{}) {
		t.Errorf("%s: %v, %v, want %v", what, r, err, e)
	}
}

// P16.1
func TestDevice(t *testing.T) {
	d, f := formatted(t, 300, 6, 2)
	empty := api.VolReport{Name: "v0", Kind: api.VolMain, Entries: 2, Levels: 1, Own: 1}
	other := empty
	other.Name = "v1"
	if r := found(t, d); !check.Same(r, api.Report{Who: 6, Boot: 1, Gen: 2, Blocks: 3, Free: 295, Vols: []api.VolReport{empty, other}}) {
		t.Error(r)
	}
	for _, c := range []api.Call{
		{Kind: api.CMkdir, Path: "/d"}, {Kind: api.CCreate, Path: "/d/f"}, {Kind: api.CWrite, Path: "/d/f", Data: strings.Repeat("x", 130)},
		{Kind: api.CLink, Path: "/d/f", To: "/g"}, {Kind: api.CSymlink, Path: "/s", To: "/d"}, {Kind: api.CSetx, Path: "/s", To: "x", Data: "y"},
		{Kind: api.CCreate, Path: "/gone"}, {Kind: api.CUnlink, Path: "/gone"}, {Kind: api.CMkdir, Path: "/none"}, {Kind: api.CRmdir, Path: "/none"},
	} {
		if ans, _ := f.Call("v1", c); ans.Err != api.OK {
			t.Fatal(c, ans)
		}
	}
	if r := found(t, d); r.Vols[1] != other || r.Blocks != 3 {
		t.Error("ahead of a commit:", r)
	}
	want(t, "Snap", f.Snap("v1", "s"), api.OK)
	want(t, "Clone", f.Clone("v1", "w"), api.OK)
	want(t, "Commit", f.Commit(), api.OK)
	r := found(t, d)
	// v; the root, 5 made, of which 2 are gone; 6 links; 3 pieces; an xattr.
	s := api.VolReport{Name: "s", Kind: api.VolSnap, Entries: 1 + 6 + 6 + 3 + 1, Levels: 2, Files: 1, Dirs: 1, Syms: 1, Bytes: 130, Dead: 2}
	s.Own = r.Vols[0].Own
	v1, w := s, s
	v1.Name, v1.Kind, v1.Own = "v1", api.VolMain, 0
	w.Name, w.Kind, w.Own = "w", api.VolClone, 0
	if !check.Same(r, api.Report{Who: 6, Boot: 1, Gen: 3, Blocks: 2 + s.Own, Free: 296 - s.Own, Vols: []api.VolReport{s, empty, v1, w}}) || s.Own < 4 || s.Own > 5 {
		t.Error(r)
	}
	f.Call("v1", api.Call{Kind: api.CUtime, Path: "/", Time: 3})
	f.Commit()
	if n := found(t, d).Vols[2].Own; n < 2 || n >= s.Own {
		t.Error("blocks that the snapshot has not:", n)
	}
	f.Delete("s")
	f.Commit()
	d.Crash()
	d.Start()
	g, _ := fs.Open(d)
	who, boot, _ := g.Own()
	if r := found(t, d); r.Who != who || r.Boot != boot || r.Boot != 2 || r.Gen != 6 || len(r.Vols) != 3 || r.Vols[0].Name != "v0" {
		t.Error(r)
	}
}

// laid is a device upon which a store has a root, made by hand.
func laid(t *testing.T, note string, by func(s *store.Store) int) *dev.Dev {
	t.Helper()
	d := device(t, 100)
	s, _ := store.Format(d, "")
	want(t, "Commit", s.Commit(by(s), note), api.OK)
	return d
}

// P16.1: what is not as it should be.
func TestWrong(t *testing.T) {
	off := device(t, 30)
	off.Crash()
	none(t, "no device", nil, api.ENIL)
	none(t, "one that was not made", &dev.Dev{}, api.ENIL)
	none(t, "no power", off, api.EIO)
	none(t, "an empty one", device(t, 30), api.ENOENT)
	top := func(data string, kids ...int) func(s *store.Store) int {
		return func(s *store.Store) int {
			id, err := s.Put(kids, data)
			want(t, "Put", err, api.OK)
			return id
		}
	}
	const data = "\x01\x00\x02v0\x01"
	one := func(l []api.Entry) func(s *store.Store) int {
		return func(s *store.Store) int {
			root, _ := diff.Apply(s, 0, diff.Lists(nil, l))
			return top(data, root)(s)
		}
	}
	// It has the entries of a state, but its leaves have too few.
	thin := func(s *store.Store) int {
		var kids []int
		var b strings.Builder
		for _, e := range facts.Entries(facts.Empty()) {
			leaf, _ := tree.Put(s, 0, e.Key, e.Val)
			kids = append(kids, leaf)
			b.WriteString("\x00" + string(rune(len(e.Key))) + e.Key)
		}
		return top(data, top("\x01\x02"+b.String(), kids...)(s))(s)
	}
	good, note := facts.Entries(facts.Empty()), fs.Note(3, 9)
	if r := found(t, laid(t, note, one(good))); r.Who != 3 || r.Boot != 9 || r.Gen != 2 || r.Vols[0].Entries != 2 {
		t.Error(r)
	}
	if r := found(t, laid(t, note, top("\x00"))); r.Blocks != 1 || len(r.Vols) != 0 {
		t.Error(r)
	}
	none(t, "a note that is none", laid(t, "F", one(good)), api.EIO)
	none(t, "nobody's note", laid(t, fs.Note(8, 1), one(good)), api.EIO)
	none(t, "no root", laid(t, note, func(*store.Store) int { return 0 }), api.EIO)
	none(t, "no volumes", laid(t, note, top("")), api.EIO)
	none(t, "a volume without a tree", laid(t, note, top(data)), api.EIO)
	none(t, "a tree that is none", laid(t, note, func(s *store.Store) int { return top(data, top("")(s))(s) }), api.EIO)
	none(t, "a tree that is thin", laid(t, note, thin), api.EIO)
	none(t, "no state", laid(t, note, one(good[:1])), api.EIO)
	none(t, "the second one has none", laid(t, note, func(s *store.Store) int {
		a, _ := diff.Apply(s, 0, diff.Lists(nil, good))
		b, _ := diff.Apply(s, 0, diff.Lists(nil, good[1:]))
		return top("\x02\x00\x02v0\x01\x00\x02v1\x01", a, b)(s)
	}), api.EIO)
	if _, err := fs.Open(laid(t, note, thin)); err != api.OK {
		t.Error("its state can be told:", err)
	}
}

// lies is all that lies on a device.
func lies(d *dev.Dev) []string {
	var l []string
	for i := range d.Size() {
		s, _ := d.Read(i)
		l = append(l, s)
	}
	return l
}

// script is a random one, upon a device.
type script struct {
	*rand.Rand
	d *dev.Dev
	f *fs.Fs
}

func pick[T any](x *script, l ...T) T { return l[x.Intn(len(l))] }

// step is one: a call, snapshots, clones, commits, crashes.
func (x *script) step() {
	names := []string{"s", "t", "c"}
	for _, v := range x.f.Vols() {
		names = append(names, v.Name)
	}
	name := pick(x, names...)
	switch x.Intn(24) {
	case 0:
		x.f.Snap(name, pick(x, names...))
	case 1:
		x.f.Clone(name, pick(x, names...))
	case 2:
		x.f.Delete(name)
	case 3, 4, 5:
		x.f.Commit()
	case 6: // two others made something of one name
		s, _ := x.f.State(name)
		x.f.Put(name, join.States(s, join.States(made(s, 0), made(s, 1))))
	case 7:
		x.d.Fuse(x.Intn(20))
	default:
		x.f.Call(name, x.call(name))
	}
}

// made is what a replica writes that makes a directory.
func made(s api.State, who int) api.State {
	_, out := calls.Do(s, who, api.Call{Kind: api.CMkdir, Path: "/n" + strconv.Itoa(len(s.Nodes))})
	return out
}

// call is any change.
func (x *script) call(name string) api.Call {
	s, _ := x.f.State(name)
	paths := []string{"/"}
	for _, f := range query.Tree(s) {
		paths = append(paths, f.Path)
	}
	c := api.Call{Kind: 1 + x.Intn(13), Path: pick(x, paths...), To: strings.TrimSuffix(pick(x, paths...), "/") + "/" + pick(x, "a", "b", "c")}
	if x.Intn(2) == 0 {
		c.Kind = pick(x, api.CMkdir, api.CCreate, api.CWrite)
	}
	if c.Kind == api.CMkdir || c.Kind == api.CCreate || c.Kind == api.CSymlink {
		c.Path, c.To = c.To, "to"
	}
	c.N, c.Off, c.Data = x.Intn(512), x.Intn(300), strings.Repeat("d", x.Intn(100))
	return c
}

// told is what should be found: all of it counted once more, by the blocks themselves.
func told(t *testing.T, d *dev.Dev) api.Report {
	t.Helper()
	s, err := store.Open(d)
	if err != api.OK {
		t.Fatal(err)
	}
	root, note, gen := s.Root()
	who, boot, _ := fs.Noted(note)
	b, _ := s.Get(root)
	slots, _ := fs.Top(b)
	r := api.Report{Who: who, Boot: boot, Gen: gen, Blocks: len(s.Live()), Free: d.Size() - 2 - len(s.Live())}
	ahead := map[int]int{}
	for _, slot := range slots {
		l, _ := tree.Range(s, slot.Root, "", "", math.MaxInt)
		state, err := facts.State(l)
		if err != api.OK {
			t.Fatal(slot, err)
		}
		v := api.VolReport{Name: slot.Name, Kind: slot.Kind, Entries: len(l), Dead: len(state.Links) - len(view.Shown(state))}
		v.Levels, _ = tree.Height(s, slot.Root)
		v.Files, v.Dirs, v.Syms, v.Bytes = query.Usage(state)
		for todo := []int{slot.Root}; len(todo) > 0; todo = todo[1:] {
			if ahead[todo[0]]++; ahead[todo[0]] == 1 {
				v.Own++
			}
			b, _ := s.Get(todo[0])
			todo = append(todo, b.Kids...)
		}
		r.Vols = append(r.Vols, v)
	}
	return r
}

// P16.1, P16.2: behind any script all is as it should be, and told as it is; nothing has changed.
func TestAny(t *testing.T) {
	odd, dead, shared := 0, 0, 0
	for seed := range 60 {
		x := &script{Rand: rand.New(rand.NewSource(int64(seed)))}
		x.d, x.f = formatted(t, 60+5*seed, x.Intn(8), 1+x.Intn(3))
		for range 80 {
			x.step()
			if x.f.Commit() == api.EIO || x.Intn(10) == 0 {
				x.d.Crash(slices.DeleteFunc(x.d.Dirty(), func(int) bool { return x.Intn(2) == 0 })...)
				x.d.Start()
				f, err := fs.Open(x.d)
				if err != api.OK {
					t.Fatal(seed, err)
				}
				x.f = f
			}
			was, dirty := lies(x.d), x.d.Dirty()
			r := found(t, x.d)
			if !slices.Equal(lies(x.d), was) || !slices.Equal(x.d.Dirty(), dirty) {
				t.Fatal(seed, "the device is changed")
			}
			if w := told(t, x.d); !check.Same(r, w) {
				t.Fatalf("seed %d: %v, not %v", seed, r, w)
			}
			own := 0
			for _, v := range r.Vols {
				own += v.Own
				dead += v.Dead
				if v.Own == 0 {
					shared++
				}
				s, _ := x.f.State(v.Name)
				odd += len(view.In(view.Shown(s), view.Lost()))
			}
			if own+1 != r.Blocks {
				t.Fatal(seed, own, r.Blocks)
			}
		}
	}
	if odd < 100 || dead < 100 || shared < 100 {
		t.Error(odd, dead, shared)
	}
}

// P16.3: each byte of each block that is reached.
func TestTold(t *testing.T) {
	d, f := formatted(t, 300, 0, 2)
	for i := range 20 {
		path := "/" + strconv.Itoa(i)
		f.Call("v0", api.Call{Kind: api.CCreate, Path: path})
		f.Call("v0", api.Call{Kind: api.CWrite, Path: path, Data: strings.Repeat("d", 100)})
	}
	f.Snap("v0", "s")
	f.Call("v0", api.Call{Kind: api.CMkdir, Path: "/d"})
	want(t, "Commit", f.Commit(), api.OK)
	r := found(t, d)
	s, _ := store.Open(d)
	reached := map[int]int{}
	for _, id := range s.Live() {
		reached[id]++
	}
	if len(reached) < 20 {
		t.Fatal(len(reached))
	}
	for id := 2; id < 300; id++ {
		lies, _ := d.Read(id)
		for at := 0; at < len(lies); at += 1 + len(lies)/40 {
			for _, by := range []byte{1, 0x80, 0xff} {
				b := []byte(lies)
				b[at] ^= by
				d := d.Clone()
				d.Write(id, string(b))
				if reached[id] > 0 {
					none(t, "a block was changed", d, api.EIO)
				} else if !check.Same(found(t, d), r) {
					t.Error("a block that nobody has was changed")
				}
			}
		}
		if d := d.Clone(); reached[id] > 0 {
			d.Write(id, "")
			none(t, "a block is empty", d, api.EIO)
			d.Write(id, crc.Seal("\x00\x00\x00"))
			none(t, "a block is another one", d, api.EIO)
		}
	}
}

// P16.1
func TestSame(t *testing.T) {
	vol := api.VolReport{Name: "a", Kind: 1, Entries: 2, Levels: 3, Own: 4, Files: 5, Dirs: 6, Syms: 7, Bytes: 8, Dead: 9}
	one := func() api.Report {
		return api.Report{Who: 1, Boot: 2, Gen: 3, Blocks: 4, Free: 5, Vols: []api.VolReport{vol, vol}}
	}
	if !check.Same(one(), one()) || !check.Same(api.Report{}, api.Report{Vols: []api.VolReport{}}) {
		t.Error("the same")
	}
	for i, change := range []func(r *api.Report){
		func(r *api.Report) { r.Who++ }, func(r *api.Report) { r.Boot++ }, func(r *api.Report) { r.Gen++ }, func(r *api.Report) { r.Blocks++ }, func(r *api.Report) { r.Free++ },
		func(r *api.Report) { r.Vols = nil }, func(r *api.Report) { r.Vols = r.Vols[:1] }, func(r *api.Report) { r.Vols = append(r.Vols, vol) },
		func(r *api.Report) { r.Vols[1].Name = "b" }, func(r *api.Report) { r.Vols[1].Kind++ }, func(r *api.Report) { r.Vols[0].Entries++ }, func(r *api.Report) { r.Vols[1].Levels++ },
		func(r *api.Report) { r.Vols[0].Own++ }, func(r *api.Report) { r.Vols[1].Files++ }, func(r *api.Report) { r.Vols[1].Dirs++ }, func(r *api.Report) { r.Vols[1].Syms++ },
		func(r *api.Report) { r.Vols[1].Bytes++ }, func(r *api.Report) { r.Vols[0].Dead++ },
	} {
		r := one()
		change(&r)
		if check.Same(r, one()) || check.Same(one(), r) {
			t.Error(i, r)
		}
	}
}
