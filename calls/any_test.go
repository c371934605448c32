package calls_test

import (
	"maps"
	"math"
	"math/rand"
	"slices"
	"strings"
	"testing"

	"crannog/api"
	"crannog/calls"
	"crannog/facts"
	"crannog/join"
	"crannog/vector"
	"crannog/view"
)

// world is replicas of a volume that change apart, and hear of one another.
type world struct {
	*rand.Rand
	reps []api.State
}

func began(seed, reps int) *world {
	h := &world{Rand: rand.New(rand.NewSource(int64(seed)))}
	for range reps {
		h.reps = append(h.reps, facts.Empty())
	}
	return h
}

// one is any of a list.
func one[T any](h *world, l ...T) T { return l[h.Intn(len(l))] }

// there is a path that leads somewhere.
func (h *world) there(b *book) string { return one(h, slices.Sorted(maps.Keys(b.at))...) }

// path is one that leads somewhere, or could, mostly.
func (h *world) path(b *book) string {
	p := h.there(b)
	switch n := h.Intn(40); {
	case n < 16:
		p = strings.TrimSuffix(p, "/") + "/" + one(h, "a", "b", "c", "d")
	case n == 16:
		p = one(h, "", "a", "/.lost", "/", "//", "/a/", "/.lost/a", p+"/..", long, deep)
	}
	return p
}

// call is any, mostly one that may be.
func (h *world) call(v api.State) api.Call {
	b := open(v, 0, api.Call{})
	c := api.Call{Kind: 1 + h.Intn(19), Path: h.path(b), To: h.path(b)}
	if h.Intn(3) == 0 {
		c.Kind = one(h, api.CMkdir, api.CMkdir, api.CCreate, api.CLink, api.CRename, api.CWrite, api.CSetx, api.CSetx)
	}
	if c.Kind != api.CMkdir && c.Kind != api.CCreate && c.Kind != api.CSymlink && h.Intn(3) > 0 {
		c.Path = h.there(b)
	}
	if c.Kind == api.CSetx || c.Kind == api.CDelx || c.Kind == api.CGetx {
		c.To = one(h, "a", "b", "c", "d", "e", one(h, "f", "", "a/b", strings.Repeat("n", 17)))
		c.Path = one(h, "/", "/a", "/a", c.Path)
	}
	if c.Kind == api.CSymlink && h.Intn(4) == 0 {
		c.To = one(h, "", long, long[:120])
	}
	c.N = one(h, 0, 0o700, 0o644, 511, 63, 64, 65, h.Intn(200), one(h, -1, 512, 1024, 1025))
	c.Off = one(h, 0, 0, 1, 63, 64, h.Intn(150), one(h, -1, 1000, 1024, 1025))
	c.Data = strings.Repeat(one(h, "A", "B", "\x00"), one(h, 0, 1, 2, 30, 32, 33, 64, 65, h.Intn(150)))
	c.Time = one(h, 0, 1, -1, 2.5, math.Inf(1), math.Inf(-1), math.Copysign(0, -1), one(h, math.NaN(), 3, 4, 5))
	return c
}

// step is one: somebody does something, or hears of another one. It tells what was done, on which state (false: nothing).
func (h *world) step() (was api.State, c api.Call, ans api.Answer, out api.State, done bool) {
	i, j := h.Intn(len(h.reps)), h.Intn(len(h.reps))
	if h.Intn(12) == 0 {
		h.reps[i] = join.Merge(h.reps[i], h.reps[j])
		return
	}
	was = h.reps[i]
	c = h.call(was)
	ans, out = calls.Do(was, i, c)
	if ans.Err == api.OK && len(out.Nodes)+len(out.Links) > 0 {
		h.reps[i] = join.States(was, out)
	}
	return was, c, ans, out, true
}

// P13.1, P13.2, P13.7: any calls on any volumes, held against the document's words.
func TestAny(t *testing.T) {
	kinds, errs, odd := map[int]int{}, map[api.Errno]int{}, 0
	for seed := range 400 {
		h := began(seed, 1+seed%3)
		for range 200 {
			who := h.Intn(len(h.reps))
			was, c, ans, out, done := h.step()
			if !done {
				continue
			}
			if len(out.Links)+len(out.Nodes) > 0 {
				who = slices.IndexFunc(out.Seen[:], func(n int) bool { return n > 0 })
			}
			if a, s := want(was, who, c); !same(a, ans, s, out) {
				t.Fatalf("seed %d: %v by %d on %v:\n got %v, %v\nwant %v, %v", seed, c, who, was, ans, out, a, s)
			}
			if ans.Err == api.OK {
				kinds[c.Kind]++
			}
			errs[ans.Err]++
			odd += len(view.In(view.Shown(was), lost))
			who = one(h, -1, 8, 7, 0)
			ans, out = calls.Do(was, who, c)
			if a, s := want(was, who, c); !same(a, ans, s, out) {
				t.Fatalf("seed %d: %v by %d on %v:\n got %v, %v\nwant %v, %v", seed, c, who, was, ans, out, a, s)
			}
		}
	}
	for kind := api.CMkdir; kind <= api.CListx; kind++ {
		if kinds[kind] < 10 {
			t.Errorf("of kind %d %d were done", kind, kinds[kind])
		}
	}
	for _, err := range []api.Errno{api.EPERM, api.ENOENT, api.EBUSY, api.EEXIST, api.ENOTDIR, api.EISDIR, api.EINVAL, api.EFBIG, api.ENAMETOOLONG, api.ENOTEMPTY, api.ENODATA, api.ENOSPC} {
		if errs[err] < 10 {
			t.Errorf("error %d came %d times", err, errs[err])
		}
	}
	if odd < 1000 {
		t.Errorf("%d conflicts", odd)
	}
}

// P13.4: what a change wrote goes together with the state, which may be then, has the event, and all that it had.
func TestAnyMayBe(t *testing.T) {
	for seed := range 120 {
		h := began(seed, 1+seed%4)
		for range 150 {
			was, c, _, out, done := h.step()
			if !done || len(out.Nodes)+len(out.Links) == 0 {
				continue
			}
			now := join.States(was, out)
			who := slices.IndexFunc(out.Seen[:], func(n int) bool { return n > 0 })
			id, _ := vector.Next(was.Seen, who)
			if facts.Check(now) != api.OK || now.Seen != vector.With(was.Seen, id) || out.Seen != alone(id) {
				t.Fatalf("seed %d: %v on %v: %v", seed, c, was, now)
			}
			for _, n := range was.Nodes {
				if m, ok := facts.Node(now, n.Id); !ok || m.Kind != n.Kind || m.Text != n.Text || m.Attr != n.Attr && m.Attr.At != id || m.Size != n.Size && m.Size.At != id {
					t.Fatalf("seed %d: %v on %v: %v is gone", seed, c, was, n)
				}
			}
			for _, l := range was.Links {
				i := slices.IndexFunc(now.Links, func(m api.Link) bool { return m.Id == l.Id })
				if i < 0 || now.Links[i].Node != l.Node || now.Links[i].At != l.At && now.Links[i].At != id || !vector.Within(l.Alive, now.Links[i].Alive) || !vector.Within(l.Dead, now.Links[i].Dead) {
					t.Fatalf("seed %d: %v on %v: %v is gone", seed, c, was, l)
				}
			}
		}
	}
}

// ask is what one is told of a path.
func ask(v api.State, kind int, path, to string) api.Answer {
	ans, _ := calls.Do(v, 0, api.Call{Kind: kind, Path: path, To: to, N: api.MaxSize})
	return ans
}

// P13.5: what was changed is what is asked for then.
func TestAnySeen(t *testing.T) {
	for seed := range 120 {
		h := began(seed, 1+seed%3)
		for range 150 {
			was, c, ans, out, done := h.step()
			if !done || ans.Err != api.OK || len(out.Nodes)+len(out.Links) == 0 {
				continue
			}
			now := join.States(was, out)
			if !isSeen(was, now, c) {
				t.Fatalf("seed %d: %v on %v: it is not seen: %v", seed, c, was, now)
			}
		}
	}
}

// isSeen tells whether a change is.
func isSeen(was, now api.State, c api.Call) bool {
	before, after, moved := ask(was, api.CStat, c.Path, ""), ask(now, api.CStat, c.Path, ""), ask(now, api.CStat, c.To, "")
	time, _ := bits(c.Time)
	bytes := ask(was, api.CRead, c.Path, "").Data
	shows := func(path string) bool { // the link that stood there
		on, _ := open(was, 0, c).find(path)
		return slices.ContainsFunc(view.Shown(now), func(k api.Shown) bool { return k.Link == on.links[len(on.links)-1] })
	}
	switch c.Kind {
	case api.CMkdir, api.CCreate, api.CSymlink:
		st := api.Stat{Node: after.Stat.Node, Kind: map[int]int{1: api.Dir, 2: api.File, 4: api.Sym}[c.Kind], Mode: c.N, Time: time, Links: 1}
		if c.Kind == api.CSymlink {
			st.Size = len(c.To)
		}
		return after.Stat == st && !vector.Has(was.Seen, st.Node) && (c.Kind != api.CSymlink || ask(now, api.CReadlink, c.Path, "").Data == c.To)
	case api.CLink:
		return moved.Err == api.OK && moved.Stat.Node == before.Stat.Node && moved.Stat.Links == before.Stat.Links+1
	case api.CUnlink, api.CRmdir:
		return !shows(c.Path)
	case api.CRename:
		return strings.HasPrefix(c.To, "/.lost/") || moved.Err == api.OK && moved.Stat.Node == before.Stat.Node
	case api.CWrite:
		bytes += strings.Repeat("\x00", max(0, c.Off+len(c.Data)-len(bytes)))
		return ask(now, api.CRead, c.Path, "").Data == bytes[:c.Off]+c.Data+bytes[c.Off+len(c.Data):]
	case api.CTruncate:
		return ask(now, api.CRead, c.Path, "").Data == (bytes + strings.Repeat("\x00", api.MaxSize))[:c.N] && after.Stat.Size == c.N
	case api.CChmod:
		before.Stat.Mode = c.N
		return after.Stat == before.Stat
	case api.CUtime:
		before.Stat.Time = time
		return after.Stat == before.Stat
	case api.CSetx:
		return calls.Same(ask(now, api.CGetx, c.Path, c.To), api.Answer{Data: c.Data}) && slices.Contains(ask(now, api.CListx, c.Path, "").Names, c.To)
	case api.CDelx:
		return ask(now, api.CGetx, c.Path, c.To).Err == api.ENODATA && !slices.Contains(ask(now, api.CListx, c.Path, "").Names, c.To)
	}
	return false
}

// P13.6: a change of one name leaves all other names, and what they lead to, as they were. (Of one replica: there are no conflicts.)
func TestAnyAlone(t *testing.T) {
	changed := 0
	for seed := range 100 {
		h := began(seed, 1)
		for range 150 {
			was, c, _, out, done := h.step()
			if !done || len(out.Nodes)+len(out.Links) == 0 {
				continue
			}
			changed++
			x, y := all(was), all(join.States(was, out))
			if len(out.Nodes) > 0 && out.Nodes[0].Kind == 0 { // all names of what was changed
				maps.DeleteFunc(x, func(_ string, in inside) bool { return in.stat.Node == out.Nodes[0].Id })
				maps.DeleteFunc(y, func(_ string, in inside) bool { return in.stat.Node == out.Nodes[0].Id })
			} else if c.Kind == api.CRename {
				x = moved(x, c.Path, c.To)
			} else if c.Kind == api.CLink {
				delete(y, c.To)
			} else {
				delete(x, c.Path)
				delete(y, c.Path)
			}
			if !maps.EqualFunc(x, y, sameInside) {
				t.Fatalf("seed %d: %v on %v:\n%v\n%v", seed, c, was, x, y)
			}
		}
	}
	if changed < 1000 {
		t.Errorf("%d changes", changed)
	}
}

// inside is what can be asked of a path.
type inside struct {
	stat  api.Stat
	data  string
	vals  string
	names []string
}

func sameInside(a, b inside) bool {
	return a.stat == b.stat && a.data == b.data && a.vals == b.vals && slices.Equal(a.names, b.names)
}

// all is what can be asked of all paths, but for how many links there are, and the root's names.
func all(v api.State) map[string]inside {
	l := map[string]inside{}
	for path, on := range open(v, 0, api.Call{}).at {
		if len(path) > api.MaxPath || strings.Count(path, "/") > api.MaxDeep {
			continue
		}
		in := inside{stat: ask(v, api.CStat, path, "").Stat, names: ask(v, api.CListx, path, "").Names}
		in.stat.Links = 0
		if in.data = ask(v, api.CRead, path, "").Data; on.kind == api.Sym {
			in.data = ask(v, api.CReadlink, path, "").Data
		}
		for _, name := range in.names {
			in.vals += "\x00" + ask(v, api.CGetx, path, name).Data
		}
		l[path] = in
	}
	return l
}

// moved is all paths, with what was at one, and below it, at another one.
func moved(l map[string]inside, from, to string) map[string]inside {
	out := map[string]inside{}
	for path, in := range l {
		if path == to {
			continue
		}
		if rest, ok := strings.CutPrefix(path, from); ok && (rest == "" || rest[0] == '/') {
			path = to + rest
		}
		if len(path) <= api.MaxPath && strings.Count(path, "/") <= api.MaxDeep {
			out[path] = in
		}
	}
	return out
}

// P13.6: with conflicts, too, each other link stands where it stood, unless it is, or was, a conflict itself, or showed for what it had alone.
func TestAnyAloneWithConflicts(t *testing.T) {
	for seed := range 100 {
		h := began(1000+seed, 3)
		for range 150 {
			was, c, _, out, done := h.step()
			if !done || len(out.Links) == 0 {
				continue
			}
			s := join.States(was, out)
			now := map[api.Stamp]api.Shown{}
			for _, k := range view.Shown(s) {
				now[k.Link] = k
			}
			for _, k := range view.Shown(was) {
				i := slices.IndexFunc(out.Links, func(l api.Link) bool {
					return l.Id == k.Link && l.Alive == api.Vector{} || l.Id == k.Link && l.Name != ""
				})
				j := slices.IndexFunc(was.Links, func(l api.Link) bool { return l.Id == k.Link })
				if at := now[k.Link]; at != k && i < 0 && !k.Odd && !at.Odd && join.Alive(was.Links[j]) {
					t.Fatalf("seed %d: %v on %v: %v became %v", seed, c, was, k, at)
				}
			}
		}
	}
}
