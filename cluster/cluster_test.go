package cluster_test

import (
	"math"
	"slices"
	"strings"
	"testing"

	"crannog/api"
	"crannog/calls"
	"crannog/check"
	"crannog/cluster"
	"crannog/dev"
	"crannog/facts"
	"crannog/fs"
	"crannog/join"
)

func want(t *testing.T, what string, got, want api.Errno) {
	t.Helper()
	if got != want {
		t.Errorf("%s: %v, want %v", what, got, want)
	}
}

func is[T comparable](t *testing.T, what string, got, want T) {
	t.Helper()
	if got != want {
		t.Errorf("%s: %v, want %v", what, got, want)
	}
}

// world is one that is looked at.
type world struct {
	*cluster.World
	*testing.T
}

func began(t *testing.T, reps, vols, blocks int) world {
	t.Helper()
	w, err := cluster.New(reps, vols, blocks)
	if err != api.OK {
		t.Fatal(err)
	}
	return world{w, t}
}

// do has a step answer some error, and nothing else.
func (w world) do(s api.Step, e api.Errno) {
	w.Helper()
	if a := w.Step(s); !calls.Same(a, api.Answer{Err: e}) {
		w.Errorf("step %d of %d, %q, %q, %d: %v, want %v", s.Kind, s.Rep, s.Vol, s.To, s.N, a.Err, e)
	}
}

// kind is a step of a replica.
func (w world) kind(kind, rep int, e api.Errno) {
	w.Helper()
	w.do(api.Step{Kind: kind, Rep: rep, Vol: "v0", To: "x"}, e)
}

// call has a call be answered with some error.
func (w world) call(rep int, vol string, c api.Call, e api.Errno) api.Answer {
	w.Helper()
	a := w.Step(api.Step{Kind: api.SCall, Rep: rep, Vol: vol, Call: c})
	if a.Err != e {
		w.Errorf("%d %s call %d of %q, %q: %v, want %v", rep, vol, c.Kind, c.Path, c.To, a.Err, e)
	}
	return a
}

func mkdir(path string) api.Call { return api.Call{Kind: api.CMkdir, Path: path} }

func stat(path string) api.Call { return api.Call{Kind: api.CStat, Path: path} }

// counts tells what is on its way, was sent, and was lost.
func (w world) counts(on, sent, lost int) {
	w.Helper()
	if o, s, l := w.Net(); o != on || s != sent || l != lost {
		w.Errorf("Net: %d, %d, %d, want %d, %d, %d", o, s, l, on, sent, lost)
	}
}

// come has all messages come.
func (w world) come() {
	w.Helper()
	for {
		on, _, _ := w.Net()
		if on == 0 {
			return
		}
		w.do(api.Step{Kind: api.SDeliver}, api.OK)
	}
}

// pull has a replica pull all that all others have.
func (w world) pull(rep int) {
	w.Helper()
	w.kind(api.STick, rep, api.OK)
	w.come()
}

func (w world) state(rep int, vol string) api.State {
	w.Helper()
	s, err := w.State(rep, vol)
	if err != api.OK {
		w.Fatal(rep, vol, err)
	}
	return s
}

// dark tells whether a replica has no power.
func (w world) dark(rep int) {
	w.Helper()
	s, err := w.State(rep, "v0")
	if err != api.EIO || !facts.Same(s, api.State{}) || w.Vols(rep) != nil || w.Free(rep) != 0 {
		w.Errorf("%d has power: %v", rep, err)
	}
	w.call(rep, "v0", stat("/"), api.EIO)
}

// ats is the stamps of all events, as text.
func (w world) ats() string {
	var l []string
	for _, e := range w.Events() {
		l = append(l, string([]byte{'0' + byte(e.At.Time), '.', '0' + byte(e.At.Who), 'v', '0' + byte(e.Vol)}))
	}
	return strings.Join(l, " ")
}

// P21: the document's example
func TestExample(t *testing.T) {
	w := began(t, 2, 1, 300)
	w.call(0, "v0", mkdir("/a"), api.OK)
	w.kind(api.SCommit, 0, api.OK)
	w.kind(api.STick, 1, api.OK)
	w.counts(1, 1, 0)
	w.do(api.Step{Kind: api.SDeliver}, api.OK)
	w.do(api.Step{Kind: api.SDeliver}, api.OK)
	is(t, "Seen", w.state(1, "v0").Seen, api.Vector{1})
}

// P21.1
func TestNew(t *testing.T) {
	for _, c := range []struct {
		reps, vols, blocks int
		err                api.Errno
	}{
		{1, 1, 300, api.EINVAL}, {0, 1, 300, api.EINVAL}, {-1, 1, 300, api.EINVAL}, {9, 1, 300, api.EINVAL}, {math.MinInt, 1, 300, api.EINVAL}, {math.MaxInt, 1, 300, api.EINVAL},
		{2, 0, 300, api.EINVAL}, {2, 4, 300, api.EINVAL}, {2, -1, 300, api.EINVAL}, {2, math.MinInt, 300, api.EINVAL}, {8, math.MaxInt, 300, api.EINVAL},
		{2, 1, 7, api.EINVAL}, {2, 1, 4097, api.EINVAL}, {2, 1, -1, api.EINVAL}, {2, 1, math.MaxInt, api.EINVAL}, {2, 1, math.MinInt, api.EINVAL},
		{2, 1, 8, api.ENOSPC}, {2, 1, 26, api.ENOSPC}, {2, 1, 27, api.OK}, {8, 3, 28, api.ENOSPC}, {8, 3, 29, api.OK}, {8, 3, 4096, api.OK}, {2, 3, 300, api.OK}, {8, 1, 300, api.OK},
	} {
		w, err := cluster.New(c.reps, c.vols, c.blocks)
		if err != c.err || (w != nil) != (err == api.OK) {
			t.Errorf("%+v: %v", c, err)
		}
		if w == nil {
			continue
		}
		x := world{w, t}
		reps, vols := w.Size()
		is(t, "reps", reps, c.reps)
		is(t, "vols", vols, c.vols)
		x.counts(0, 0, 0)
		is(t, "events", len(w.Events()), 0)
		for i := range reps {
			r, err := check.Device(w.Device(i))
			if err != api.OK || r.Who != i || r.Boot != 1 || r.Free != w.Free(i) || len(r.Vols) != vols {
				t.Error(i, r, err)
			}
			for k, v := range w.Vols(i) {
				is(t, "a volume", v, api.Vol{Name: fs.Main(k), Kind: api.VolMain})
				if !facts.Same(x.state(i, v.Name), facts.Empty()) {
					t.Error("it is not empty")
				}
			}
			is(t, "volumes", len(w.Vols(i)), vols)
		}
	}
}

// P21.3: of none
func TestNone(t *testing.T) {
	for _, w := range []*cluster.World{nil, {}} {
		x := world{w, t}
		for kind := range 16 {
			x.do(api.Step{Kind: kind, Vol: "v0"}, api.ENIL)
			x.do(api.Step{Kind: kind, Rep: -1}, api.ENIL)
		}
		s, err := w.State(0, "v0")
		m, e := w.Peek(0)
		reps, vols := w.Size()
		if err != api.ENIL || e != api.ENIL || !facts.Same(s, api.State{}) || m != (api.Msg{}) || reps != 0 || vols != 0 {
			t.Error(s, err, m, e, reps, vols)
		}
		if w.Events() != nil || w.Vols(0) != nil || w.Free(0) != 0 || w.Device(0) != nil || w.Calm(0) || w.Calm(3) {
			t.Error("there is something")
		}
		x.counts(0, 0, 0)
	}
}

// P21.2: whose steps are refused, and what is asked first
func TestRefused(t *testing.T) {
	w := began(t, 3, 1, 300)
	w.kind(api.SCrash, 1, api.OK)
	others := []int{math.MinInt, -1, 0, 14, 99, math.MaxInt}
	for _, rep := range []int{-1, 3, 7, math.MinInt, math.MaxInt} {
		for kind := api.SCall; kind <= api.SPrune; kind++ {
			e := api.EINVAL
			if kind == api.SDeliver || kind == api.SDrop || kind == api.SDouble {
				e = api.ENOENT // whoever is named
			}
			w.kind(kind, rep, e)
		}
		for _, kind := range others {
			w.kind(kind, rep, api.EINVAL)
		}
		s, err := w.State(rep, "v0")
		if err != api.EINVAL || !facts.Same(s, api.State{}) || w.Vols(rep) != nil || w.Free(rep) != 0 || w.Device(rep) != nil {
			t.Error(rep, err)
		}
	}
	for _, kind := range []int{api.SCall, api.SSnap, api.SClone, api.SDelete, api.SCommit, api.STick, api.SFuse, api.SPrune} {
		w.kind(kind, 1, api.EIO)
		w.do(api.Step{Kind: kind, Rep: 1, Vol: "none"}, api.EIO)
	}
	for _, kind := range others {
		w.kind(kind, 1, api.EIO)
		w.kind(kind, 0, api.EINVAL)
	}
	for _, kind := range []int{api.SDeliver, api.SDrop, api.SDouble} {
		w.kind(kind, 1, api.ENOENT)
	}
	w.dark(1)
	w.kind(api.SCrash, 1, api.OK)
	w.kind(api.SStart, 1, api.OK)
	w.kind(api.SStart, 1, api.EBUSY)
	w.kind(api.SStart, 0, api.EBUSY)
	s, err := w.State(0, "none")
	if err != api.ENOENT || !facts.Same(s, api.State{}) {
		t.Error(err)
	}
}

// P21.2: calls, and the events of those that wrote something
func TestCall(t *testing.T) {
	w := began(t, 3, 2, 600)
	a := w.call(2, "v0", api.Call{Kind: api.CCreate, Path: "/f", N: 5, Time: 8}, api.OK)
	if !calls.Same(a, api.Answer{}) {
		t.Error(a)
	}
	is(t, "events", w.ats(), "1.2v0")
	for _, c := range []struct {
		vol string
		api.Call
		err api.Errno
	}{
		{"v0", stat("/f"), api.OK}, {"v0", stat("/g"), api.ENOENT}, {"v0", mkdir("/f"), api.EEXIST}, {"v0", mkdir("f"), api.EINVAL}, {"v0", api.Call{}, api.EINVAL},
		{"v0", api.Call{Kind: api.CWrite, Path: "/f"}, api.OK}, {"v0", api.Call{Kind: api.CRename, Path: "/f", To: "/f"}, api.OK},
		{"v2", mkdir("/a"), api.ENOENT}, {"", mkdir("/a"), api.ENOENT},
	} {
		w.call(2, c.vol, c.Call, c.err)
	}
	is(t, "events", w.ats(), "1.2v0")
	a = w.call(2, "v0", stat("/f"), api.OK)
	if a.Stat.Mode != 5 || a.Stat.Node != (api.Stamp{Time: 1, Who: 2}) {
		t.Error(a)
	}
	a = w.call(2, "v0", api.Call{Kind: api.CList, Path: "/"}, api.OK)
	if !slices.Equal(a.Names, []string{".lost", "f"}) {
		t.Error(a)
	}
	// A snapshot is not written to; of a clone nobody hears.
	w.do(api.Step{Kind: api.SSnap, Rep: 2, Vol: "v0", To: "s"}, api.OK)
	w.do(api.Step{Kind: api.SClone, Rep: 2, Vol: "v0", To: "c"}, api.OK)
	w.do(api.Step{Kind: api.SClone, Rep: 2, Vol: "v0", To: "v2"}, api.OK)
	w.call(2, "s", mkdir("/a"), api.EROFS)
	w.call(2, "c", mkdir("/a"), api.OK)
	w.call(2, "v2", mkdir("/a"), api.OK)
	is(t, "events", w.ats(), "1.2v0")
	w.call(0, "v0", mkdir("/d"), api.OK)
	w.call(2, "v1", mkdir("/d"), api.OK)
	w.call(2, "v0", api.Call{Kind: api.CUnlink, Path: "/f"}, api.OK)
	w.call(2, "v1", mkdir("/d/e"), api.OK)
	is(t, "events", w.ats(), "1.2v0 1.0v0 1.2v1 2.2v0 2.2v1")
}

// P21: what an event has
func TestEvents(t *testing.T) {
	w := began(t, 2, 2, 600)
	was := map[string]api.State{"v0": facts.Empty(), "v1": facts.Empty()}
	var l []api.Event
	for i, c := range []api.Call{
		mkdir("/a"), {Kind: api.CCreate, Path: "/a/f"}, {Kind: api.CWrite, Path: "/a/f", Data: "data"}, {Kind: api.CSetx, Path: "/a/f", To: "x", Data: "y"},
		{Kind: api.CRename, Path: "/a/f", To: "/g"}, {Kind: api.CRmdir, Path: "/a"}, {Kind: api.CUtime, Path: "/g", Time: 3},
	} {
		for vol := range 2 {
			name := fs.Main(vol)
			_, out := calls.Do(was[name], 1, c)
			l = append(l, api.Event{At: api.Stamp{Time: i + 1, Who: 1}, Vol: vol, Knew: was[name].Seen, Delta: out})
			was[name] = join.States(was[name], out)
			w.call(1, name, c, api.OK)
		}
	}
	for range 2 {
		got := w.Events()
		if len(got) != len(l) {
			t.Fatal(len(got))
		}
		for i, e := range got {
			if e.At != l[i].At || e.Vol != l[i].Vol || e.Knew != l[i].Knew || !facts.Same(e.Delta, l[i].Delta) {
				t.Error(i, e)
			}
			// They are nobody's.
			for k := range e.Delta.Nodes {
				clear(e.Delta.Nodes[k].Pieces)
				clear(e.Delta.Nodes[k].Xattrs)
			}
			clear(e.Delta.Nodes)
			clear(e.Delta.Links)
		}
		clear(got[:cap(got)])
	}
	for name, s := range was {
		if !facts.Same(w.state(1, name), s) {
			t.Error(name)
		}
	}
	w.kind(api.SCommit, 1, api.OK)
	w.pull(0)
	w.call(0, "v0", mkdir("/b"), api.OK)
	e := w.Events()[len(l)]
	if e.At != (api.Stamp{Time: 8}) || e.Knew != (api.Vector{0, 7}) || e.Delta.Seen != (api.Vector{8}) {
		t.Error(e)
	}
}

// P21.2: volumes of one's own
func TestOwnVolumes(t *testing.T) {
	w := began(t, 2, 1, 300)
	branch := func(kind int, vol, to string, e api.Errno) {
		t.Helper()
		w.do(api.Step{Kind: kind, Vol: vol, To: to}, e)
	}
	w.call(0, "v0", mkdir("/a"), api.OK)
	branch(api.SSnap, "v0", "s", api.OK)
	branch(api.SClone, "s", "c", api.OK)
	branch(api.SSnap, "none", "x", api.ENOENT)
	branch(api.SClone, "none", "x", api.ENOENT)
	branch(api.SSnap, "v0", "c", api.EEXIST)
	branch(api.SClone, "v0", "", api.EINVAL)
	branch(api.SDelete, "none", "", api.ENOENT)
	branch(api.SDelete, "v0", "", api.EPERM)
	l := []api.Vol{{Name: "c", Kind: api.VolClone, Seen: api.Vector{1}}, {Name: "s", Kind: api.VolSnap, Seen: api.Vector{1}}, {Name: "v0", Kind: api.VolMain, Seen: api.Vector{1}}}
	if got := w.Vols(0); !slices.Equal(got, l) {
		t.Error(got)
	}
	is(t, "volumes of the other one", len(w.Vols(1)), 1)
	branch(api.SDelete, "s", "", api.OK)
	branch(api.SDelete, "c", "", api.OK)
	is(t, "volumes", len(w.Vols(0)), 1)
}

// P21.2: prune
func TestPrune(t *testing.T) {
	w := began(t, 2, 1, 300)
	prune := func(rep int, vol string, e api.Errno) {
		t.Helper()
		w.do(api.Step{Kind: api.SPrune, Rep: rep, Vol: vol}, e)
	}
	w.do(api.Step{Kind: api.SClone, Vol: "v0", To: "v1"}, api.OK)
	for _, vol := range []string{"", "v", "v1", "v2", "c", "v00"} {
		prune(0, vol, api.ENOENT)
	}
	prune(0, "v0", api.EBUSY)
	w.call(0, "v0", mkdir("/a"), api.OK)
	w.call(0, "v0", api.Call{Kind: api.CRmdir, Path: "/a"}, api.OK)
	w.kind(api.SCommit, 0, api.OK)
	w.pull(1)
	prune(1, "v0", api.OK) // the other one is known to know it: it gave it
	is(t, "links", len(w.state(1, "v0").Links), 0)
	prune(0, "v0", api.OK) // of the other one nothing is known but that it asked
	is(t, "links", len(w.state(0, "v0").Links), 1)
	w.pull(0)
	prune(0, "v0", api.OK)
	is(t, "links", len(w.state(0, "v0").Links), 0)
}

// P21.3: a device is a clone
func TestDevice(t *testing.T) {
	w := began(t, 2, 1, 300)
	w.call(0, "v0", mkdir("/a"), api.OK)
	if len(w.Device(0).Dirty()) == 0 {
		t.Error("nothing was written")
	}
	d := w.Device(0)
	d.Crash()
	w.call(0, "v0", mkdir("/b"), api.OK)
	d.Start()
	if f, err := fs.Open(d); err != api.OK || f.Vols()[0].Seen != (api.Vector{}) {
		t.Error(err)
	}
	w.kind(api.SCommit, 0, api.OK)
	w.kind(api.SCrash, 0, api.OK)
	if _, err := w.Device(0).Read(0); err != api.EIO {
		t.Error("it has power")
	}
	w.kind(api.SStart, 0, api.OK)
	is(t, "Seen", w.state(0, "v0").Seen, api.Vector{2})
	is(t, "Size", w.Device(1).Size(), 300)
}

// P21.2: a crash keeps what it should
func TestCrash(t *testing.T) {
	w := began(t, 2, 1, 300)
	w.call(0, "v0", mkdir("/a"), api.OK)
	var twin [2]*dev.Dev
	twin[0], twin[1] = w.Device(0), w.Device(0)
	dirty := twin[0].Dirty()
	keep := []int{dirty[1], -1, 5000, dirty[len(dirty)-1]}
	twin[0].Crash(keep...)
	twin[0].Start()
	w.do(api.Step{Kind: api.SCrash, Keep: keep}, api.OK)
	w.dark(0)
	w.do(api.Step{Kind: api.SCrash, Keep: dirty}, api.OK) // nothing is dirty any more
	got := w.Device(0)
	got.Start()
	for i := range 300 {
		a, _ := got.Read(i)
		b, _ := twin[0].Read(i)
		if a != b {
			t.Error("block", i)
		}
	}
}
