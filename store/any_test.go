package store_test

import (
	"maps"
	"math/rand"
	"slices"
	"strings"
	"testing"

	"crannog/api"
	"crannog/dev"
	"crannog/store"
)

// one is a block that should be there.
type one struct {
	kids []int
	data string
	held int
}

// plain is what a store should be, in the plainest way: who names whom is counted anew each time.
type plain struct {
	size  int
	root  int
	note  string
	gen   int
	there map[int]one
	kept  map[int]one
}

func (p *plain) named(id int) int {
	n := 0
	for _, b := range p.there {
		for _, kid := range b.kids {
			if kid == id {
				n++
			}
		}
	}
	return n
}

func (p *plain) loose() []int {
	var l []int
	for id, b := range p.there {
		if b.held == 0 && p.named(id) == 0 {
			l = append(l, id)
		}
	}
	return l
}

// below is a block and all below it.
func (p *plain) below(id int) map[int]one {
	all := map[int]one{}
	for todo := []int{id}; len(todo) > 0; todo = todo[1:] {
		if b, ok := p.there[todo[0]]; ok {
			all[todo[0]] = b
			todo = append(todo, b.kids...)
		}
	}
	return all
}

// settle takes away what is loose, but for some, till nothing else is.
func (p *plain) settle(but []int) {
	for again := true; again; {
		again = false
		for _, id := range p.loose() {
			if !slices.Contains(but, id) {
				delete(p.there, id)
				again = true
			}
		}
	}
}

func (p *plain) free() []int {
	var l []int
	for id := 2; id < p.size; id++ {
		if _, kept := p.kept[id]; !kept {
			if _, there := p.there[id]; !there {
				l = append(l, id)
			}
		}
	}
	return l
}

// same tells whether a store is as it should be.
func (p *plain) same(t *testing.T, s *store.Store) {
	t.Helper()
	is(t, s, p.root, p.note, p.gen, len(p.free()), slices.Sorted(maps.Keys(p.there))...)
	for id := range p.size {
		b, ok := p.there[id]
		if !ok {
			none(t, s, id)
			continue
		}
		refs(t, s, id, p.named(id), b.held)
		got(t, s, id, b.data, b.kids...)
	}
}

// pair is a store, its device, and what both should be.
type pair struct {
	d *dev.Dev
	s *store.Store
	p *plain
	r *rand.Rand
}

// any is the number of a block that is there; of none if there is none, and at times.
func (x *pair) any() int {
	l := slices.Sorted(maps.Keys(x.p.there))
	if len(l) == 0 || x.r.Intn(20) == 0 {
		return x.r.Intn(x.p.size+2) - 1
	}
	return l[x.r.Intn(len(l))]
}

func (x *pair) put(t *testing.T) {
	b := one{data: strings.Repeat("d", x.r.Intn(40))}
	if x.r.Intn(50) == 0 {
		b.data = strings.Repeat("e", 3895+x.r.Intn(10))
	}
	n := x.r.Intn(4)
	if x.r.Intn(20) == 0 {
		n = 14 + x.r.Intn(5)
	}
	bad := n > 16 || len(b.data) > 3900
	for range n {
		kid := x.any()
		b.kids = append(b.kids, kid)
		_, ok := x.p.there[kid]
		bad = bad || !ok
	}
	id, err := x.s.Put(b.kids, b.data)
	free := x.p.free()
	switch {
	case bad:
		want(t, "Put", err, api.EINVAL)
	case len(free) == 0:
		want(t, "Put", err, api.ENOSPC)
	default:
		want(t, "Put", err, api.OK)
		if id != free[0] {
			t.Errorf("Put: %d, want %d", id, free[0])
		}
		x.p.there[free[0]] = b
		return
	}
	if id != 0 {
		t.Errorf("Put: %d", id)
	}
}

// hold holds, or drops.
func (x *pair) hold(t *testing.T, by int) {
	id := x.any()
	b, ok := x.p.there[id]
	e := api.OK
	if !ok || b.held+by < 0 {
		e = api.EINVAL
	}
	if by > 0 {
		want(t, "Hold", x.s.Hold(id), e)
	} else {
		want(t, "Drop", x.s.Drop(id), e)
	}
	if e != api.OK {
		return
	}
	but := x.p.loose()
	b.held += by
	x.p.there[id] = b
	if by < 0 {
		x.p.settle(but)
	}
}

func (x *pair) sweep(t *testing.T) {
	was := len(x.p.there)
	x.p.settle(nil)
	if n := x.s.Sweep(); n != was-len(x.p.there) {
		t.Errorf("Sweep: %d, want %d", n, was-len(x.p.there))
	}
}

func (x *pair) commit(t *testing.T) {
	root, note := x.any(), strings.Repeat("n", x.r.Intn(9))
	if x.r.Intn(8) == 0 {
		root = 0
	}
	if _, ok := x.p.there[root]; root != 0 && !ok {
		want(t, "Commit", x.s.Commit(root, note), api.EINVAL)
		return
	}
	want(t, "Commit", x.s.Commit(root, note), api.OK)
	x.p.root, x.p.note, x.p.gen = root, note, x.p.gen+1
	x.p.kept = x.p.below(root)
}

// crash leaves what was kept; whatever else of the device is left does not count.
func (x *pair) crash(t *testing.T) {
	keep := slices.DeleteFunc(x.d.Dirty(), func(int) bool { return x.r.Intn(2) == 0 })
	restart(t, x.d, keep...)
	x.s = opened(t, x.d)
	x.p.there = map[int]one{}
	for id, b := range x.p.kept {
		b.held = 0
		if id == x.p.root {
			b.held = 1
		}
		x.p.there[id] = b
	}
	x.p.kept = maps.Clone(x.p.there)
}

// step does the same to both.
func (x *pair) step(t *testing.T) {
	switch n := x.r.Intn(100); {
	case n < 40:
		x.put(t)
	case n < 60:
		x.hold(t, 1)
	case n < 86:
		x.hold(t, -1)
	case n < 90:
		x.sweep(t)
	case n < 97:
		x.commit(t)
	default:
		x.crash(t)
	}
}

// bytes is what lies in the blocks that may not be written over.
func (x *pair) bytes() map[int]string {
	all := map[int]string{}
	for _, l := range []map[int]one{x.p.there, x.p.kept} {
		for id := range l {
			all[id], _ = x.d.Read(id)
		}
	}
	return all
}

// P6.6, P6.7, P6.8, and all above: any calls, held against what they should make
func TestAnyCalls(t *testing.T) {
	for seed := range 60 {
		r := rand.New(rand.NewSource(int64(seed)))
		size := 8 + r.Intn(30)
		d, s := format(t, size)
		x := &pair{d, s, &plain{size: size, gen: 1, there: map[int]one{}, kept: map[int]one{}}, r}
		for i := range 150 {
			was := x.bytes()
			x.step(t)
			x.p.same(t, x.s)
			for id, now := range x.bytes() {
				if before, ok := was[id]; ok && now != before {
					t.Errorf("block %d was written over", id)
				}
			}
			if t.Failed() {
				t.Fatalf("seed %d, step %d", seed, i)
			}
		}
	}
}
