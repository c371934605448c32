package dev_test

import (
	"maps"
	"math"
	"math/rand"
	"slices"
	"strconv"
	"strings"
	"testing"

	"crannog/api"
	"crannog/dev"
)

// device is one of so many blocks.
func device(t *testing.T, n int) *dev.Dev {
	t.Helper()
	d, err := dev.New(n)
	if d == nil || err != api.OK {
		t.Fatalf("New(%d): %v, %v", n, d, err)
	}
	return d
}

// used is one of eight blocks: 1 is kept, 2 kept and dirty, 3 dirty, and 4 dirty and empty.
func used(t *testing.T) *dev.Dev {
	t.Helper()
	d := device(t, 8)
	want(t, "kept 1", d.Write(1, "one"), api.OK)
	want(t, "kept 2", d.Write(2, "two"), api.OK)
	want(t, "kept 4", d.Write(4, "four"), api.OK)
	want(t, "flush", d.Flush(), api.OK)
	want(t, "dirty 4", d.Write(4, ""), api.OK)
	want(t, "dirty 3", d.Write(3, "THREE"), api.OK)
	want(t, "dirty 2", d.Write(2, "TWO"), api.OK)
	return d
}

func want(t *testing.T, what string, got, want api.Errno) {
	t.Helper()
	if got != want {
		t.Errorf("%s: %v, want %v", what, got, want)
	}
}

// has tells where a device has other bytes than those, and empty ones elsewhere.
func has(t *testing.T, d *dev.Dev, what map[int]string) {
	t.Helper()
	for i := range d.Size() {
		if s, err := d.Read(i); s != what[i] || err != api.OK {
			t.Errorf("Read(%d): %q, %v, want %q", i, s, err, what[i])
		}
	}
}

func dirty(t *testing.T, d *dev.Dev, l ...int) {
	t.Helper()
	if got := d.Dirty(); !slices.Equal(got, l) {
		t.Errorf("Dirty: %v, want %v", got, l)
	}
}

// off tells whether a device has no power, by all that says so.
func off(t *testing.T, d *dev.Dev) {
	t.Helper()
	s, err := d.Read(1)
	want(t, "Read without power", err, api.EIO)
	if s != "" {
		t.Errorf("Read without power: %q", s)
	}
	want(t, "Write without power", d.Write(1, "x"), api.EIO)
	want(t, "Flush without power", d.Flush(), api.EIO)
	want(t, "Fuse without power", d.Fuse(3), api.EIO)
}

// P5.1
func TestNew(t *testing.T) {
	for _, n := range []int{math.MinInt, -8, -1, 0, 1, 7, 4097, 1 << 20, math.MaxInt} {
		if d, err := dev.New(n); d != nil || err != api.EINVAL {
			t.Errorf("New(%d): %v, %v", n, d, err)
		}
	}
	for _, n := range []int{8, 9, 100, 4095, 4096} {
		d := device(t, n)
		if d.Size() != n {
			t.Errorf("New(%d): %d blocks", n, d.Size())
		}
		dirty(t, d)
		has(t, d, nil)
		for i := range n {
			want(t, "Write", d.Write(i, strconv.Itoa(i)), api.OK)
		}
		want(t, "Write", d.Write(n, ""), api.EINVAL)
		want(t, "Flush", d.Flush(), api.OK)
		for i := range n {
			if s, err := d.Read(i); s != strconv.Itoa(i) || err != api.OK {
				t.Fatalf("New(%d): Read(%d): %q, %v", n, i, s, err)
			}
		}
	}
}

// P5.1: without a fuse
func TestNewHasNoFuse(t *testing.T) {
	d := device(t, 8)
	for range 10000 {
		want(t, "Write", d.Write(7, "x"), api.OK)
		want(t, "Flush", d.Flush(), api.OK)
	}
}

// P5.1
func TestDirty(t *testing.T) {
	d := device(t, 4096)
	for _, i := range []int{4095, 0, 70, 9, 10, 700, 9, 8, 3000} {
		want(t, "Write", d.Write(i, ""), api.OK)
	}
	dirty(t, d, 0, 8, 9, 10, 70, 700, 3000, 4095)
	if d.Size() != 4096 {
		t.Errorf("%d blocks", d.Size())
	}
	// An answer is new memory.
	l := d.Dirty()
	clear(l[:cap(l)])
	dirty(t, d, 0, 8, 9, 10, 70, 700, 3000, 4095)
	want(t, "Flush", d.Flush(), api.OK)
	dirty(t, d)
	want(t, "Write", d.Write(5, "same"), api.OK)
	want(t, "Flush", d.Flush(), api.OK)
	want(t, "Write", d.Write(5, "same"), api.OK)
	dirty(t, d, 5)
}

// P5.2
func TestWrite(t *testing.T) {
	d := used(t)
	has(t, d, map[int]string{1: "one", 2: "TWO", 3: "THREE"})
	dirty(t, d, 2, 3, 4)
	for _, i := range []int{math.MinInt, -1, 8, 9, 4096, math.MaxInt} {
		want(t, "Write of no block", d.Write(i, "x"), api.EINVAL)
		s, err := d.Read(i)
		want(t, "Read of no block", err, api.EINVAL)
		if s != "" {
			t.Errorf("Read(%d): %q", i, s)
		}
	}
	full := strings.Repeat("\xff", 4096)
	want(t, "too long", d.Write(3, full+"y"), api.EINVAL)
	want(t, "too long", d.Write(5, strings.Repeat("z", 1<<20)), api.EINVAL)
	has(t, d, map[int]string{1: "one", 2: "TWO", 3: "THREE"})
	dirty(t, d, 2, 3, 4)
	want(t, "full", d.Write(0, full), api.OK)
	want(t, "full", d.Write(7, full[:4095]), api.OK)
	want(t, "once more", d.Write(3, "\x00"), api.OK)
	now := map[int]string{0: full, 1: "one", 2: "TWO", 3: "\x00", 7: full[:4095]}
	has(t, d, now)
	dirty(t, d, 0, 2, 3, 4, 7)
	want(t, "flush", d.Flush(), api.OK)
	has(t, d, now)
	dirty(t, d)
	want(t, "flush of nothing", d.Flush(), api.OK)
	has(t, d, now)
}

// P5.2: the error that is named first
func TestFirstError(t *testing.T) {
	d := used(t)
	want(t, "Crash", d.Crash(), api.OK)
	want(t, "Write", d.Write(-1, "x"), api.EIO)
	want(t, "Write", d.Write(8, strings.Repeat("x", 4097)), api.EIO)
	s, err := d.Read(-1)
	want(t, "Read", err, api.EIO)
	if s != "" {
		t.Errorf("Read: %q", s)
	}
	// What is refused is no act: neither does it burn the fuse, nor does the power go.
	want(t, "Start", d.Start(), api.OK)
	want(t, "Fuse", d.Fuse(0), api.OK)
	want(t, "Write", d.Write(8, "x"), api.EINVAL)
	want(t, "Write", d.Write(0, strings.Repeat("x", 4097)), api.EINVAL)
	_, err = d.Read(8)
	want(t, "Read", err, api.EINVAL)
	_, err = d.Read(7)
	want(t, "Read", err, api.OK)
	want(t, "Fuse", d.Fuse(1), api.OK)
	want(t, "Write", d.Write(-1, "x"), api.EINVAL)
	want(t, "Write", d.Write(0, "x"), api.OK)
	want(t, "Write", d.Write(0, "y"), api.EIO)
}

// P5.2, P5.6
func TestFuse(t *testing.T) {
	for _, n := range []int{0, 1, 2, 3, 7, 100} {
		for _, flush := range []bool{false, true} {
			d := device(t, 8)
			want(t, "Fuse", d.Fuse(n), api.OK)
			act := func(i int) api.Errno {
				_, err := d.Read(i % 8) // no act
				want(t, "Read", err, api.OK)
				d.Dirty()
				d.Size()
				d.Clone().Write(0, "")
				if flush && i%2 == 1 {
					return d.Flush()
				}
				return d.Write(i%8, strconv.Itoa(i))
			}
			done := 0
			for act(done) == api.OK {
				done++
			}
			if done != n {
				t.Errorf("fuse of %d: %d acts", n, done)
			}
			off(t, d)
		}
	}
}

// P5.2: the act at which the power goes is not done
func TestFuseEnds(t *testing.T) {
	d := used(t)
	want(t, "Fuse", d.Fuse(0), api.OK)
	want(t, "Write", d.Write(5, "x"), api.EIO)
	off(t, d)
	dirty(t, d, 2, 3, 4)

	d = used(t)
	want(t, "Fuse", d.Fuse(0), api.OK)
	want(t, "Write", d.Write(3, "x"), api.EIO)
	want(t, "Crash", d.Crash(2, 3), api.OK)
	want(t, "Start", d.Start(), api.OK)
	has(t, d, map[int]string{1: "one", 2: "TWO", 3: "THREE", 4: "four"})

	d = used(t)
	want(t, "Fuse", d.Fuse(0), api.OK)
	want(t, "Flush", d.Flush(), api.EIO)
	off(t, d)
	dirty(t, d, 2, 3, 4)
	want(t, "Start", d.Start(), api.OK)
	dirty(t, d)
	has(t, d, map[int]string{1: "one", 2: "two", 4: "four"})
}

// P5.2: a later fuse is the one that counts, and one below 0 is none
func TestFuseAnew(t *testing.T) {
	for _, none := range []int{-1, -2, -1000, math.MinInt} {
		d := device(t, 8)
		want(t, "Fuse", d.Fuse(1), api.OK)
		want(t, "Fuse", d.Fuse(none), api.OK)
		for range 1000 {
			want(t, "Write", d.Write(0, ""), api.OK)
		}
		want(t, "Fuse", d.Fuse(2), api.OK)
		want(t, "Write", d.Write(0, ""), api.OK)
		want(t, "Fuse", d.Fuse(3), api.OK)
		for range 3 {
			want(t, "Write", d.Write(0, ""), api.OK)
		}
		want(t, "Write", d.Write(0, ""), api.EIO)
	}
	d := device(t, 8)
	want(t, "Fuse", d.Fuse(math.MaxInt), api.OK)
	for range 1000 {
		want(t, "Write", d.Write(0, ""), api.OK)
	}
}

// P5.3
func TestCrash(t *testing.T) {
	for _, c := range []struct {
		keep []int
		then map[int]string
	}{
		{nil, map[int]string{1: "one", 2: "two", 4: "four"}},
		{[]int{}, map[int]string{1: "one", 2: "two", 4: "four"}},
		{[]int{2}, map[int]string{1: "one", 2: "TWO", 4: "four"}},
		{[]int{3}, map[int]string{1: "one", 2: "two", 3: "THREE", 4: "four"}},
		{[]int{4}, map[int]string{1: "one", 2: "two"}},
		{[]int{4, 3, 2}, map[int]string{1: "one", 2: "TWO", 3: "THREE"}},
		{[]int{3, 3, 3, 2, 3}, map[int]string{1: "one", 2: "TWO", 3: "THREE", 4: "four"}},
		{[]int{0, 1, 5, 7, 8, -1, math.MaxInt, math.MinInt}, map[int]string{1: "one", 2: "two", 4: "four"}},
	} {
		d := used(t)
		keep := slices.Clone(c.keep)
		want(t, "Fuse", d.Fuse(5), api.OK)
		want(t, "Crash", d.Crash(keep...), api.OK)
		if !slices.Equal(keep, c.keep) {
			t.Errorf("Crash(%v) changed what was handed in: %v", c.keep, keep)
		}
		dirty(t, d)
		off(t, d)
		if d.Size() != 8 {
			t.Errorf("%d blocks", d.Size())
		}
		// Another one takes nothing that the first has left.
		want(t, "Crash", d.Crash(2, 3, 4), api.OK)
		off(t, d)
		want(t, "Start", d.Start(), api.OK)
		dirty(t, d)
		has(t, d, c.then)
		for range 100 {
			want(t, "without a fuse", d.Flush(), api.OK)
		}
	}
}

// P5.3: what the fuse has left dirty is lost, or kept, by the crash that comes behind it
func TestCrashBehindFuse(t *testing.T) {
	for keep := range 4 {
		d := device(t, 8)
		want(t, "Fuse", d.Fuse(2), api.OK)
		want(t, "Write", d.Write(0, "a"), api.OK)
		want(t, "Write", d.Write(1, "b"), api.OK)
		want(t, "Write", d.Write(2, "c"), api.EIO)
		dirty(t, d, 0, 1)
		then := map[int]string{}
		l := []int{2} // it was not written
		for i, s := range []string{"a", "b"} {
			if keep>>i&1 == 1 {
				l = append(l, i)
				then[i] = s
			}
		}
		want(t, "Crash", d.Crash(l...), api.OK)
		dirty(t, d)
		want(t, "Start", d.Start(), api.OK)
		has(t, d, then)
		for range 100 {
			want(t, "without a fuse", d.Write(7, ""), api.OK)
		}
	}
}

// P5.3
func TestStart(t *testing.T) {
	// With power: nothing.
	d := used(t)
	want(t, "Fuse", d.Fuse(2), api.OK)
	want(t, "Start", d.Start(), api.OK)
	dirty(t, d, 2, 3, 4)
	has(t, d, map[int]string{1: "one", 2: "TWO", 3: "THREE"})
	want(t, "Write", d.Write(5, "x"), api.OK)
	want(t, "Start", d.Start(), api.OK)
	want(t, "Write", d.Write(5, "y"), api.OK)
	want(t, "Write", d.Write(5, "z"), api.EIO)
	// Without: what was dirty is lost, and there is no fuse.
	dirty(t, d, 2, 3, 4, 5)
	want(t, "Start", d.Start(), api.OK)
	dirty(t, d)
	has(t, d, map[int]string{1: "one", 2: "two", 4: "four"})
	for range 100 {
		want(t, "without a fuse", d.Write(7, ""), api.OK)
	}
}

// P5.1: a clone is the same device, and knows nothing of the other one
func TestClone(t *testing.T) {
	was := map[int]string{1: "one", 2: "TWO", 3: "THREE"}
	d := used(t)
	want(t, "Fuse", d.Fuse(3), api.OK)
	c := d.Clone()
	if c.Size() != 8 {
		t.Errorf("%d blocks", c.Size())
	}
	dirty(t, c, 2, 3, 4)
	has(t, c, was)
	// The clone's fuse is one of its own.
	want(t, "Write", c.Write(3, "other"), api.OK)
	want(t, "Write", c.Write(6, "other"), api.OK)
	want(t, "Flush", c.Flush(), api.OK)
	want(t, "Write", c.Write(1, "other"), api.EIO)
	dirty(t, d, 2, 3, 4)
	has(t, d, was)
	for range 3 {
		want(t, "Write", d.Write(0, "0"), api.OK)
	}
	want(t, "Write", d.Write(1, "other"), api.EIO)
	want(t, "Start", c.Start(), api.OK)
	has(t, c, map[int]string{1: "one", 2: "TWO", 3: "other", 6: "other"})

	// One without power, of which some is dirty yet.
	c = d.Clone()
	off(t, c)
	dirty(t, c, 0, 2, 3, 4)
	want(t, "Crash", d.Crash(0, 2, 3), api.OK)
	dirty(t, c, 0, 2, 3, 4)
	want(t, "Crash", c.Crash(4), api.OK)
	want(t, "Start", d.Start(), api.OK)
	off(t, c)
	want(t, "Start", c.Start(), api.OK)
	has(t, d, map[int]string{0: "0", 1: "one", 2: "TWO", 3: "THREE", 4: "four"})
	has(t, c, map[int]string{1: "one", 2: "two"})

	// What is kept of both is apart, too.
	want(t, "Write", d.Write(1, "d"), api.OK)
	want(t, "Flush", d.Flush(), api.OK)
	has(t, c, map[int]string{1: "one", 2: "two"})
	off(t, func() *dev.Dev { d.Crash(); return d.Clone() }())
}

// P5.3: of a device that New did not make
func TestNotMade(t *testing.T) {
	for name, d := range map[string]*dev.Dev{"nil": nil, "plain": {}} {
		want(t, name, d.Write(0, ""), api.ENIL)
		want(t, name, d.Write(-1, strings.Repeat("x", 4097)), api.ENIL)
		want(t, name, d.Flush(), api.ENIL)
		want(t, name, d.Fuse(0), api.ENIL)
		want(t, name, d.Crash(), api.ENIL)
		want(t, name, d.Crash(0, 1, -1), api.ENIL)
		want(t, name, d.Start(), api.ENIL)
		s, err := d.Read(0)
		want(t, name, err, api.ENIL)
		if s != "" || d.Size() != 0 || len(d.Dirty()) != 0 || d.Clone() != nil {
			t.Errorf("%s: %q, %d, %v, %v", name, s, d.Size(), d.Dirty(), d.Clone())
		}
		// Nor does Start make it.
		want(t, name, d.Flush(), api.ENIL)
	}
}

// plain is what a device should be, in the plainest way.
type plain struct {
	kept, last [8]string
	dirty      [8]bool
	on         bool
	fuse       int
}

// act does one, unless there is no power for it.
func (p *plain) act(do func()) api.Errno {
	if !p.on {
		return api.EIO
	}
	if p.fuse == 0 {
		p.on = false
		return api.EIO
	}
	p.fuse = max(p.fuse-1, -1)
	do()
	return api.OK
}

// stop has the dirty blocks of a list kept, and the others lost.
func (p *plain) stop(keep []int) {
	for i := range p.last {
		if p.dirty[i] && slices.Contains(keep, i) {
			p.kept[i] = p.last[i]
		}
		p.last[i], p.dirty[i] = p.kept[i], false
	}
	p.fuse = -1
}

// step does the same to both.
func (p *plain) step(t *testing.T, d *dev.Dev, r *rand.Rand) {
	i, s := r.Intn(8), strconv.Itoa(r.Int())
	switch n := r.Intn(20); {
	case n < 12:
		want(t, "Write", d.Write(i, s), p.act(func() { p.last[i], p.dirty[i] = s, true }))
	case n < 15:
		want(t, "Flush", d.Flush(), p.act(func() { p.kept, p.dirty = p.last, [8]bool{} }))
	case n < 16:
		n := r.Intn(8) - 1
		err := d.Fuse(n)
		if p.on {
			want(t, "Fuse", err, api.OK)
			p.fuse = n
		} else {
			want(t, "Fuse", err, api.EIO)
		}
	case n < 18:
		keep := r.Perm(10)[:r.Intn(6)]
		want(t, "Crash", d.Crash(keep...), api.OK)
		p.stop(keep)
		p.on = false
	default:
		want(t, "Start", d.Start(), api.OK)
		if !p.on {
			p.stop(nil)
			p.on = true
		}
	}
}

// P5.4, P5.5, and all above: any acts, held against what they should make
func TestAnyActs(t *testing.T) {
	for seed := range 300 {
		r := rand.New(rand.NewSource(int64(seed)))
		d := device(t, 8)
		p := plain{on: true, fuse: -1}
		for range 100 {
			p.step(t, d, r)
			var l []int
			for i := range 8 {
				if p.dirty[i] {
					l = append(l, i)
				}
			}
			dirty(t, d, l...)
			if !p.on {
				_, err := d.Read(0)
				want(t, "Read", err, api.EIO)
				continue
			}
			has(t, d, maps.Collect(slices.All(p.last[:])))
			if t.Failed() {
				t.Fatalf("seed %d", seed)
			}
		}
	}
}

// P5.4: whichever dirty blocks are kept, each block is as it was kept, or as it was written last. P5.5: what was flushed is there.
func TestSome(t *testing.T) {
	for kept := range 1 << 8 {
		d := device(t, 8)
		for i := range 8 {
			want(t, "Write", d.Write(i, "old"), api.OK)
		}
		want(t, "Flush", d.Flush(), api.OK)
		for i := range 6 {
			want(t, "Write", d.Write(i, "lost"), api.OK)
			want(t, "Write", d.Write(i, "new"), api.OK)
		}
		var keep []int
		then := map[int]string{}
		for i := range 8 {
			then[i] = "old"
			if kept>>i&1 == 1 {
				keep = append(keep, i)
				if i < 6 {
					then[i] = "new"
				}
			}
		}
		want(t, "Crash", d.Crash(keep...), api.OK)
		want(t, "Start", d.Start(), api.OK)
		has(t, d, then)
	}
}

// Chapter 5's example.
func TestExample(t *testing.T) {
	d := device(t, 8)
	want(t, "Write", d.Write(3, "a"), api.OK)
	want(t, "Flush", d.Flush(), api.OK)
	want(t, "Write", d.Write(3, "b"), api.OK)
	want(t, "Write", d.Write(4, "c"), api.OK)
	want(t, "Crash", d.Crash(4), api.OK)
	want(t, "Start", d.Start(), api.OK)
	has(t, d, map[int]string{3: "a", 4: "c"})
}
