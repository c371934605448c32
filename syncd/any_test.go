package syncd_test

import (
	"maps"
	"math/rand"
	"slices"
	"strings"
	"testing"

	"crannog/api"
	"crannog/calls"
	"crannog/diff"
	"crannog/facts"
	"crannog/fs"
	"crannog/join"
	"crannog/msg"
	"crannog/query"
	"crannog/vector"
)

// tie is a replica and a volume.
type tie struct{ peer, vol int }

// snap is a snapshot that was given, as it should be: all its entries.
type snap struct {
	base, mark api.Mark
	from, to   []api.Entry
	tree       int
	seen       api.Vector
}

// way is what is pulled, as it should be.
type way struct {
	base, mark api.Mark
	total      int
	parts      map[int]string
}

// had is a base, as it should be.
type had struct {
	mark    api.Mark
	entries []api.Entry
}

// plain is a replica as it should be, without blocks.
type plain struct {
	who, reps, boot, gave int
	now, kept             []api.State
	given                 map[tie][]snap
	pulls                 map[tie]*way
	bases                 map[tie]had
	known                 map[tie]api.Vector
}

func plainly(who, reps, boot int, kept []api.State) *plain {
	return &plain{
		who: who, reps: reps, boot: boot, now: slices.Clone(kept), kept: kept,
		given: map[tie][]snap{}, pulls: map[tie]*way{}, bases: map[tie]had{}, known: map[tie]api.Vector{},
	}
}

func (p *plain) ask(k tie) api.Msg {
	m := api.Msg{Kind: api.MAsk, From: p.who, To: k.peer, Vol: k.vol, Seen: p.kept[k.vol].Seen, Base: p.bases[k].mark}
	if w := p.pulls[k]; w != nil {
		m.Base, m.Mark = w.base, w.mark
		for m.Index = 0; w.parts[m.Index] != ""; m.Index++ {
		}
	}
	return m
}

func (p *plain) tick() []api.Msg {
	var l []api.Msg
	for vol := range p.now {
		for peer := range p.reps {
			if peer != p.who {
				l = append(l, p.ask(tie{peer, vol}))
			}
		}
	}
	return l
}

// take is what should be said to a message; tree tells which tree is kept.
func (p *plain) take(m api.Msg, tree func(vol int) int) ([]api.Msg, api.Errno) {
	if msg.Check(m) != api.OK || m.To != p.who || m.From >= p.reps || m.Vol >= len(p.now) {
		return nil, api.EINVAL
	}
	k := tie{m.From, m.Vol}
	p.known[k] = vector.Join(p.known[k], m.Seen)
	reply := api.Msg{Kind: api.MSame, From: p.who, To: m.From, Vol: m.Vol, Seen: p.kept[m.Vol].Seen}
	switch m.Kind {
	case api.MAsk:
		if m.Mark != none {
			for _, g := range p.given[k] {
				if g.mark == m.Mark && g.base == m.Base {
					return p.sent(k, g, m.Index), api.OK
				}
			}
			reply.Kind, reply.Mark = api.MGone, m.Mark
			return []api.Msg{reply}, api.OK
		}
		if vector.Within(reply.Seen, m.Seen) {
			return []api.Msg{reply}, api.OK
		}
		return p.sent(k, p.give(k, m.Base, tree(m.Vol)), 0), api.OK
	case api.MPart:
		return p.part(k, m)
	case api.MGone:
		if w := p.pulls[k]; w != nil && w.mark == m.Mark {
			delete(p.pulls, k)
		}
	}
	return nil, api.OK
}

func (p *plain) give(k tie, base api.Mark, tree int) snap {
	g := snap{to: facts.Entries(p.kept[k.vol]), tree: tree, seen: p.kept[k.vol].Seen}
	var stays []snap
	for _, o := range p.given[k] {
		if o.mark == base {
			g.base, g.from, stays = o.mark, o.to, []snap{o}
		}
	}
	for _, o := range p.given[k] {
		if o.base == g.base && o.tree == tree {
			return o
		}
	}
	p.gave++
	g.mark = mark(p.boot, p.gave)
	p.given[k] = append(stays, g)
	return g
}

func (p *plain) sent(k tie, g snap, from int) []api.Msg {
	return cut(api.Msg{From: p.who, To: k.peer, Vol: k.vol, Seen: g.seen, Base: g.base, Mark: g.mark}, diff.Lists(g.from, g.to), from)
}

func (p *plain) part(k tie, m api.Msg) ([]api.Msg, api.Errno) {
	w := p.pulls[k]
	if w == nil {
		b, ok := p.bases[k]
		if ok && m.Mark == b.mark || m.Base != none && (!ok || m.Base != b.mark) {
			return nil, api.ESTALE
		}
		w = &way{m.Base, m.Mark, m.Total, map[int]string{}}
		p.pulls[k] = w
	}
	if w.mark != m.Mark || w.base != m.Base {
		return nil, api.ESTALE
	}
	came := w.parts[m.Index]
	if m.Total != w.total || came != "" && came != m.Data || m.Index < w.total-1 && len(m.Data) < 512 {
		delete(p.pulls, k)
		return nil, api.EFORM
	}
	w.parts[m.Index] = m.Data
	if len(w.parts) == w.total {
		delete(p.pulls, k)
		return nil, p.finish(k, w)
	}
	if came != "" {
		return nil, api.OK
	}
	for i := m.Index / 4 * 4; i < m.Index/4*4+4 && i < w.total; i++ {
		if w.parts[i] == "" {
			return nil, api.OK
		}
	}
	return []api.Msg{p.ask(k)}, api.OK
}

func (p *plain) finish(k tie, w *way) api.Errno {
	all := ""
	for i := range w.total {
		all += w.parts[i]
	}
	changes, err := diff.Get(all)
	if err != api.OK {
		return api.EFORM
	}
	entries := map[string]string{}
	if w.base != none {
		for _, e := range p.bases[k].entries {
			entries[e.Key] = e.Val
		}
	}
	for _, c := range changes {
		entries[c.Key] = c.Val
		if c.Gone {
			delete(entries, c.Key)
		}
	}
	var l []api.Entry
	for _, key := range slices.Sorted(maps.Keys(entries)) {
		l = append(l, api.Entry{Key: key, Val: entries[key]})
	}
	s, err := facts.State(l)
	both := join.Merge(p.now[k.vol], s)
	if err != api.OK || facts.Check(both) != api.OK {
		return api.EFORM
	}
	if !facts.Same(both, p.now[k.vol]) {
		p.now[k.vol] = both
		copy(p.kept, p.now)
	}
	p.bases[k] = had{w.mark, l}
	p.known[k] = vector.Join(p.known[k], s.Seen)
	return api.OK
}

func (p *plain) prune(vol int) api.Errno {
	stable := p.now[vol].Seen
	for peer := range p.reps {
		v, ok := p.known[tie{peer, vol}]
		if peer == p.who {
			continue
		}
		if !ok || !vector.Within(v, p.now[vol].Seen) {
			return api.EBUSY
		}
		stable = vector.Meet(stable, v)
	}
	p.now[vol] = join.Prune(p.now[vol], stable)
	return api.OK
}

// group is some replicas, as they are and as they should be, and what is on its way.
type group struct {
	*rand.Rand
	l    []*side
	p    []*plain
	vols int
	mail []api.Msg
	errs map[api.Errno]int
}

func grouped(t *testing.T, seed int) *group {
	t.Helper()
	g := &group{Rand: rand.New(rand.NewSource(int64(seed))), errs: map[api.Errno]int{}}
	reps := 2 + g.Intn(2)
	g.vols = 1 + g.Intn(2)
	g.l = all(t, reps, g.vols, 3000)
	for i := range reps {
		g.p = append(g.p, plainly(i, reps, 1, slices.Repeat([]api.State{facts.Empty()}, g.vols)))
	}
	return g
}

// call is any change.
func (g *group) call(s api.State) api.Call {
	paths := []string{"/"}
	for _, f := range query.Tree(s) {
		paths = append(paths, f.Path)
	}
	path := func() string { return paths[g.Intn(len(paths))] }
	c := api.Call{Kind: 1 + g.Intn(13), Path: path(), To: strings.TrimSuffix(path(), "/") + "/" + string(rune('a'+g.Intn(3)))}
	switch c.Kind {
	case api.CMkdir, api.CCreate, api.CSymlink:
		c.Path, c.To = c.To, "x"
	case api.CSetx, api.CDelx:
		c.To = "x"
	}
	c.N, c.Data = g.Intn(500), strings.Repeat(string(rune('a'+g.Intn(3))), g.Intn(33))
	if g.Intn(2) == 0 {
		c.Data = strings.Repeat("b", g.Intn(1025))
	}
	return c
}

// spoil is a message that is another one in something.
func (g *group) spoil(m api.Msg) api.Msg {
	k := mark(1+g.Intn(2), 1+g.Intn(4))
	switch g.Intn(10) {
	case 0:
		m.Base = k
	case 1:
		m.Mark = k
	case 2:
		m.Base = none
	case 3:
		m.Mark, m.Index = none, 0
	case 4:
		m.Index = g.Intn(8)
	case 5:
		m.Total = g.Intn(8)
	case 6:
		m.Seen[g.Intn(3)] = g.Intn(20)
	case 7:
		m.Data = strings.Repeat("\x00", g.Intn(3)*256)
	case 8:
		m.Kind = 1 + g.Intn(4)
		m = msg.Bare(m)
	case 9:
		m.From, m.To, m.Vol = g.Intn(4), g.Intn(4), g.Intn(3)
	}
	return m
}

// step is one: somebody does something, or a message comes, is lost, doubled, or spoilt.
func (g *group) step(t *testing.T) {
	i := g.Intn(len(g.l))
	x, p, vol := g.l[i], g.p[i], g.Intn(g.vols)
	switch n := g.Intn(100); {
	case n < 20:
		c := g.call(p.now[vol])
		ans, out := x.f.Call(fs.Main(vol), c)
		if ans2, _ := calls.Do(p.now[vol], i, c); ans2.Err != ans.Err {
			t.Fatal(c, ans.Err, ans2.Err)
		}
		p.now[vol] = join.States(p.now[vol], out)
	case n < 30:
		x.commit(t)
		copy(p.kept, p.now)
	case n < 40:
		l := x.s.Tick()
		if !slices.Equal(l, p.tick()) {
			t.Fatal("Tick", l, p.tick())
		}
		g.mail = append(g.mail, l...)
	case n < 43:
		want(t, "Prune", x.s.Prune(vol), p.prune(vol))
	case n < 44:
		x.d.Crash(g.Perm(20)[:g.Intn(10)]...)
		x.d.Start()
		x.f, _ = fs.Open(x.d)
		x.part(t, len(g.l))
		g.p[i] = plainly(i, len(g.l), p.boot+1, p.kept)
	case len(g.mail) > 0:
		k := g.Intn(1 + g.Intn(len(g.mail)))
		m := g.mail[k]
		if g.Intn(8) > 0 {
			g.mail = slices.Delete(g.mail, k, k+1)
		}
		switch g.Intn(12) {
		case 0:
			return // lost
		case 1:
			m = g.spoil(m)
		}
		g.deliver(t, m)
	}
}

func (g *group) deliver(t *testing.T, m api.Msg) {
	i := m.To
	if i >= len(g.l) || i < 0 {
		i = 0
	}
	x, p := g.l[i], g.p[i]
	out, err := x.s.Take(m)
	should, e := p.take(m, func(vol int) int { tree, _ := x.kept(vol); return tree })
	g.errs[err]++
	if err != e || !slices.Equal(out, should) {
		t.Fatal(msg.Text(m), err, e, len(out), len(should))
	}
	g.mail = append(g.mail, out...)
}

// check holds all replicas against what they should be.
func (g *group) check(t *testing.T) {
	t.Helper()
	for i, x := range g.l {
		p := g.p[i]
		x.pulls(t, len(p.pulls), len(p.bases))
		for vol := range g.vols {
			if _, seen := x.kept(vol); seen != p.kept[vol].Seen || !facts.Same(x.state(t, vol), p.now[vol]) {
				t.Error(i, vol, "is not as it should be")
			}
			for peer := range 4 {
				v, ok := p.known[tie{peer, vol}]
				x.knows(t, peer, vol, v, ok)
			}
		}
	}
}

// P20.1 to P20.3: whatever comes, replicas say what they should, and become what they should
func TestAny(t *testing.T) {
	errs := map[api.Errno]int{}
	for seed := range 150 {
		g := grouped(t, seed)
		for range 300 {
			g.step(t)
			g.check(t)
			if t.Failed() {
				t.Fatal("seed", seed)
			}
		}
		for e, n := range g.errs {
			errs[e] += n
		}
	}
	for _, e := range []api.Errno{api.OK, api.EINVAL, api.ESTALE, api.EFORM} {
		if errs[e] < 10 {
			t.Error("too few of", e, errs)
		}
	}
}

// P20.6: while all messages come, two that ask one another know the same, and show the same
func TestInTheEnd(t *testing.T) {
	for seed := range 60 {
		g := grouped(t, 1000+seed)
		for range 200 {
			x := g.l[g.Intn(len(g.l))]
			vol := g.Intn(g.vols)
			switch n := g.Intn(10); {
			case n < 4:
				x.f.Call(fs.Main(vol), g.call(x.state(t, vol)))
			case n < 5:
				x.commit(t)
			case n < 6:
				g.mail = append(g.mail, x.s.Tick()...)
			case len(g.mail) > 0: // late, lost, doubled
				k := g.Intn(len(g.mail))
				m := g.mail[k]
				if g.Intn(4) > 0 {
					g.mail = slices.Delete(g.mail, k, k+1)
				}
				if g.Intn(4) > 0 {
					out, _ := g.l[m.To].s.Take(m)
					g.mail = append(g.mail, out...)
				}
			}
		}
		for _, x := range g.l {
			x.commit(t)
		}
		for range 4 {
			for _, x := range g.l {
				for mail := x.s.Tick(); len(mail) > 0; mail = mail[1:] {
					out, err := g.l[mail[0].To].s.Take(mail[0])
					if err != api.OK && err != api.ESTALE {
						t.Fatal(msg.Text(mail[0]), err)
					}
					mail = append(mail, out...)
				}
			}
		}
		for vol := range g.vols {
			s := g.l[0].state(t, vol)
			for i, x := range g.l {
				if o := x.state(t, vol); o.Seen != s.Seen || !query.Alike(o, s) {
					t.Error(seed, i, "is not alike")
				}
			}
		}
	}
}

// DOC, Objects: two parts know nothing of one another, even upon one file system
func TestApart(t *testing.T) {
	x := began(t, 0, 2, 1, 300)
	x.do(t, 0, mkdir("/a"))
	x.commit(t)
	y := &side{d: x.d, f: x.f}
	y.part(t, 2)
	tree, seen := x.kept(0)
	parts := x.parts(t, api.Msg{To: 1, Seen: seen, Mark: mark(1, 1)}, 0, 0, tree)
	x.take(t, asks(1, 0, api.Vector{0, 1}, none, none, 0), api.OK, parts...)
	y.knows(t, 1, 0, api.Vector{}, false)
	y.take(t, asks(1, 0, api.Vector{}, none, mark(1, 1), 0), api.OK, api.Msg{Kind: api.MGone, To: 1, Seen: seen, Mark: mark(1, 1)})
	y.take(t, asks(1, 0, api.Vector{}, none, none, 0), api.OK, parts...)
	x.do(t, 0, mkdir("/b"))
	x.commit(t)
	y.take(t, asks(1, 0, api.Vector{}, none, mark(1, 1), 0), api.OK, parts...)
	x.take(t, asks(1, 0, api.Vector{}, none, mark(1, 1), 0), api.OK, parts...)
}
