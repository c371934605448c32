package store_test

import (
	"encoding/binary"
	"hash/crc64"
	"math"
	"reflect"
	"slices"
	"strings"
	"testing"

	"crannog/api"
	"crannog/dev"
	"crannog/store"
)

const most = 1 << 40 // the greatest generation

// seal, number, text, begin and block are the forms on a device, written once more from the document.
func seal(b string) string {
	return b + string(binary.LittleEndian.AppendUint64(nil, crc64.Checksum([]byte(b), crc64.MakeTable(crc64.ECMA))))
}

func number(n, width int) string {
	return string(binary.BigEndian.AppendUint64(nil, uint64(n))[8-width:])
}

func text(s string) string { return number(len(s), 2) + s }

func open(gen, root, size int, note string) string {
	return "S" + number(gen, 6) + number(root, 4) + number(size, 4) + text(note)
}

func begin(gen, root, size int, note string) string { return seal(open(gen, root, size, note)) }

func block(data string, kids ...int) string {
	b := number(len(kids), 1)
	for _, kid := range kids {
		b += number(kid, 4)
	}
	return seal(b + text(data))
}

func want(t *testing.T, what string, got, want api.Errno) {
	t.Helper()
	if got != want {
		t.Errorf("%s: %v, want %v", what, got, want)
	}
}

func device(t *testing.T, n int) *dev.Dev {
	t.Helper()
	d, err := dev.New(n)
	if err != api.OK {
		t.Fatal(err)
	}
	return d
}

// lay has bytes be kept on a device.
func lay(t *testing.T, d *dev.Dev, what map[int]string) {
	t.Helper()
	for i, s := range what {
		want(t, "Write", d.Write(i, s), api.OK)
	}
	want(t, "Flush", d.Flush(), api.OK)
}

func lies(t *testing.T, d *dev.Dev, i int, s string) {
	t.Helper()
	if got, err := d.Read(i); got != s || err != api.OK {
		t.Errorf("in block %d: %q, %v, want %q", i, got, err, s)
	}
}

// format is a store upon a device of so many blocks.
func format(t *testing.T, n int) (*dev.Dev, *store.Store) {
	t.Helper()
	d := device(t, n)
	s, err := store.Format(d, "")
	if s == nil || err != api.OK {
		t.Fatalf("Format: %v", err)
	}
	return d, s
}

// opened is the store that lies on a device.
func opened(t *testing.T, d *dev.Dev) *store.Store {
	t.Helper()
	s, err := store.Open(d)
	if s == nil || err != api.OK {
		t.Fatalf("Open: %v", err)
	}
	return s
}

// put is the block that there is then.
func put(t *testing.T, s *store.Store, data string, kids ...int) int {
	t.Helper()
	id, err := s.Put(kids, data)
	if err != api.OK {
		t.Fatalf("Put(%v, %d bytes): %v", kids, len(data), err)
	}
	return id
}

// is tells what a store has.
func is(t *testing.T, s *store.Store, root int, note string, gen int, free int, live ...int) {
	t.Helper()
	if r, n, g := s.Root(); r != root || n != note || g != gen {
		t.Errorf("Root: %d, %q, %d, want %d, %q, %d", r, n, g, root, note, gen)
	}
	if n := s.Free(); n != free {
		t.Errorf("Free: %d, want %d", n, free)
	}
	if l := s.Live(); !slices.Equal(l, live) {
		t.Errorf("Live: %v, want %v", l, live)
	}
}

func refs(t *testing.T, s *store.Store, id, named, held int) {
	t.Helper()
	if n, h, ok := s.Refs(id); n != named || h != held || !ok {
		t.Errorf("Refs(%d): %d, %d, %v, want %d, %d", id, n, h, ok, named, held)
	}
}

func none(t *testing.T, s *store.Store, id int) {
	t.Helper()
	if n, h, ok := s.Refs(id); n != 0 || h != 0 || ok {
		t.Errorf("Refs(%d): %d, %d, %v", id, n, h, ok)
	}
	b, err := s.Get(id)
	want(t, "Get", err, api.EINVAL)
	if b.Kids != nil || b.Data != "" {
		t.Errorf("Get(%d): %v", id, b)
	}
}

func got(t *testing.T, s *store.Store, id int, data string, kids ...int) {
	t.Helper()
	b, err := s.Get(id)
	want(t, "Get", err, api.OK)
	if b.Data != data || !slices.Equal(b.Kids, kids) {
		t.Errorf("Get(%d): %v, %d bytes, want %v, %d bytes", id, b.Kids, len(b.Data), kids, len(data))
	}
}

// restart takes the power, keeps some, and gives it again.
func restart(t *testing.T, d *dev.Dev, keep ...int) {
	t.Helper()
	want(t, "Crash", d.Crash(keep...), api.OK)
	want(t, "Start", d.Start(), api.OK)
}

// P6.1
func TestFormat(t *testing.T) {
	full := strings.Repeat("\x00n", 1950)
	for _, size := range []int{8, 9, 300, 4096} {
		for _, note := range []string{"", "a note", full} {
			d := device(t, size)
			lay(t, d, map[int]string{0: begin(9, 0, size, "old"), 1: begin(8, 2, size, "elder"), 2: block("old")})
			s, err := store.Format(d, note)
			want(t, "Format", err, api.OK)
			is(t, s, 0, note, 1, size-2)
			if l := d.Dirty(); len(l) != 0 {
				t.Errorf("not flushed: %v", l)
			}
			lies(t, d, 0, "")
			lies(t, d, 1, begin(1, 0, size, note))
			lies(t, d, 2, block("old"))
			none(t, s, 2)
			restart(t, d)
			is(t, opened(t, d), 0, note, 1, size-2)
		}
	}
}

// P6.1
func TestFormatErrors(t *testing.T) {
	long := strings.Repeat("n", 3901)
	for name, d := range map[string]*dev.Dev{"nil": nil, "plain": {}} {
		for _, note := range []string{"", long} {
			s, err := store.Format(d, note)
			want(t, name, err, api.ENIL)
			if s != nil {
				t.Errorf("%s: %v", name, s)
			}
		}
		s, err := store.Open(d)
		want(t, name, err, api.ENIL)
		if s != nil {
			t.Errorf("%s: %v", name, s)
		}
	}
	d := device(t, 8)
	lay(t, d, map[int]string{0: "zero", 1: "one"})
	s, err := store.Format(d, long)
	want(t, "long note", err, api.EINVAL)
	if s != nil || len(d.Dirty()) != 0 {
		t.Errorf("long note: %v, %v", s, d.Dirty())
	}
	lies(t, d, 0, "zero")
	want(t, "Crash", d.Crash(), api.OK)
	for note, e := range map[string]api.Errno{"": api.EIO, long: api.EINVAL} {
		s, err := store.Format(d, note)
		want(t, "without power", err, e)
		if s != nil {
			t.Errorf("without power: %v", s)
		}
	}
}

// P6.1: two writes, a flush, a write, a flush; the store is answered from the last one on
func TestFormatActs(t *testing.T) {
	for fuse, dirty := range [][]int{{}, {0}, {0, 1}, {}, {1}, {}} {
		d := device(t, 8)
		lay(t, d, map[int]string{0: "zero", 1: "one", 2: "two"})
		want(t, "Fuse", d.Fuse(fuse), api.OK)
		s, err := store.Format(d, "note")
		if (s != nil) != (fuse >= 4) || (err == api.OK) != (fuse == 5) || err != api.OK && err != api.EIO {
			t.Errorf("fuse of %d: %v, %v", fuse, s, err)
		}
		if l := d.Dirty(); !slices.Equal(l, dirty) {
			t.Errorf("fuse of %d: %v are dirty, want %v", fuse, l, dirty)
		}
		if fuse >= 4 {
			is(t, s, 0, "note", 1, 6)
		}
		restart(t, d, 0, 1)
		zero, one := "zero", "one"
		if fuse >= 1 {
			zero = ""
		}
		switch {
		case fuse >= 4:
			one = begin(1, 0, 8, "note")
		case fuse >= 2:
			one = ""
		}
		lies(t, d, 0, zero)
		lies(t, d, 1, one)
		lies(t, d, 2, "two")
	}
}

// P6.1: the store that is answered beside the last flush's error is one
func TestFormatLastFlush(t *testing.T) {
	d := device(t, 8)
	want(t, "Fuse", d.Fuse(4), api.OK)
	s, err := store.Format(d, "note")
	want(t, "Format", err, api.EIO)
	_, err = s.Put(nil, "a")
	want(t, "Put without power", err, api.EIO)
	restart(t, d, 1)
	is(t, opened(t, d), 0, "note", 1, 6)
	if id := put(t, s, "a"); id != 2 {
		t.Errorf("Put: %d", id)
	}
	want(t, "Commit", s.Commit(2, "more"), api.OK)
	is(t, opened(t, d), 2, "more", 2, 5, 2)
}

// P6.1: which beginning counts
func TestOpenBeginning(t *testing.T) {
	full := strings.Repeat("n", 3900)
	a, b := begin(6, 0, 8, "six"), begin(7, 0, 8, "seven")
	for _, c := range []struct {
		name      string
		zero, one string
		note      string
		gen       int // 0: ENOENT
	}{
		{"none", "", "", "", 0},
		{"in 0", a, "", "six", 6},
		{"in 1", "", a, "six", 6},
		{"in 0, the other one none", a, "no beginning", "six", 6},
		{"greater in 1", a, b, "seven", 7},
		{"greater in 0", b, a, "seven", 7},
		{"alike", begin(6, 0, 8, "zero"), begin(6, 0, 8, "one"), "zero", 6},
		{"generation 1", begin(1, 0, 8, "n"), "", "n", 1},
		{"generation 0", begin(0, 0, 8, "n"), "", "", 0},
		{"greatest generation", begin(most, 0, 8, "n"), a, "n", most},
		{"generation too great", begin(most+1, 0, 8, "n"), a, "six", 6},
		{"generation of all bits", begin(1<<48-1, 0, 8, "n"), "", "", 0},
		{"root 1", begin(7, 1, 8, "n"), a, "six", 6},
		{"root beyond", begin(7, 8, 8, "n"), a, "six", 6},
		{"root far beyond", begin(7, 1<<32-1, 8, "n"), a, "six", 6},
		{"greater size", begin(7, 0, 9, "n"), a, "six", 6},
		{"lesser size", begin(7, 0, 7, "n"), a, "six", 6},
		{"no size", begin(7, 0, 0, "n"), a, "six", 6},
		{"full note", begin(7, 0, 8, full), a, full, 7},
		{"note too long", begin(7, 0, 8, full+"n"), a, "six", 6},
		{"other letter", seal("s" + b[1:len(b)-8]), a, "six", 6},
		{"bytes behind it", seal(open(7, 0, 8, "n") + "\x00"), a, "six", 6},
		{"a byte less", seal(open(7, 0, 8, "n")[:17]), a, "six", 6},
		{"bytes behind the sum", b + "\x00", a, "six", 6},
		{"no sum", open(7, 0, 8, "n"), a, "six", 6},
		{"sum of another one", b[:len(b)-1] + string([]byte{b[len(b)-1] ^ 1}), a, "six", 6},
		{"sealed nothing", seal(""), "", "", 0},
		{"a block", block("data"), block("data", 2), "", 0},
	} {
		d := device(t, 8)
		lay(t, d, map[int]string{0: c.zero, 1: c.one})
		s, err := store.Open(d)
		if c.gen == 0 {
			if s != nil || err != api.ENOENT {
				t.Errorf("%s: %v, %v", c.name, s, err)
			}
			continue
		}
		if err != api.OK {
			t.Errorf("%s: %v", c.name, err)
			continue
		}
		is(t, s, 0, c.note, c.gen, 6)
		if len(d.Dirty()) != 0 {
			t.Errorf("%s: Open wrote %v", c.name, d.Dirty())
		}
	}
	for _, note := range []string{a, ""} {
		d := device(t, 8)
		lay(t, d, map[int]string{0: note})
		want(t, "Crash", d.Crash(), api.OK)
		s, err := store.Open(d)
		want(t, "Open without power", err, api.EIO)
		if s != nil {
			t.Errorf("Open without power: %v", s)
		}
	}
}

// P6.1: what lies below the root
func TestOpenBlocks(t *testing.T) {
	d := device(t, 20)
	lay(t, d, map[int]string{
		0:  begin(2, 9, 20, "note"),
		9:  block("root", 19, 5, 19, 5, 5),
		5:  block("five", 3, 2),
		19: block("nineteen", 5, 3),
		3:  block("three", 2, 2),
		2:  block(""),
		4:  block("not below the root", 2, 3),
		6:  "nothing",
	})
	s := opened(t, d)
	is(t, s, 9, "note", 2, 13, 2, 3, 5, 9, 19)
	refs(t, s, 9, 0, 1)
	refs(t, s, 19, 2, 0)
	refs(t, s, 5, 4, 0)
	refs(t, s, 3, 2, 0)
	refs(t, s, 2, 3, 0)
	got(t, s, 9, "root", 19, 5, 19, 5, 5)
	got(t, s, 2, "")
	for _, id := range []int{math.MinInt, -1, 0, 1, 4, 6, 20, math.MaxInt} {
		none(t, s, id)
	}
	// They are kept, too.
	want(t, "Drop", s.Drop(9), api.OK)
	is(t, s, 9, "note", 2, 13)
	if id := put(t, s, "new"); id != 4 {
		t.Errorf("Put: %d", id)
	}
	want(t, "Commit", s.Commit(0, ""), api.OK)
	is(t, s, 0, "", 3, 17, 4)
}

// P6.1: a root below which something is wrong; the other beginning does not count
func TestOpenBad(t *testing.T) {
	kids := make([]int, 17)
	for i := range kids {
		kids[i] = 3
	}
	for name, what := range map[string]map[int]string{
		"nothing":            {},
		"no block":           {2: "block"},
		"no sum":             {2: block("a")[:3]},
		"another sum":        {2: block("a")[:11] + "\x00"},
		"a beginning":        {2: begin(9, 0, 8, "")},
		"bytes behind it":    {2: seal("\x00" + text("a") + "\x00")},
		"a byte less":        {2: seal("\x00\x00\x02a")},
		"sealed nothing":     {2: seal("")},
		"too long":           {2: block(strings.Repeat("a", 3901))},
		"too many kids":      {2: block("", kids...), 3: block("")},
		"a kid less":         {2: seal("\x02" + number(3, 4)), 3: block("")},
		"kid 0":              {2: block("", 0)},
		"kid 1":              {2: block("", 1)},
		"kid beyond":         {2: block("", 8)},
		"kid far beyond":     {2: block("", 1<<32-1)},
		"kid that is none":   {2: block("", 3, 4), 3: block("")},
		"kid's kid is none":  {2: block("", 3), 3: block("", 4), 4: block("", 5), 5: "x"},
		"its own kid":        {2: block("", 2)},
		"its own second kid": {2: block("", 3, 2), 3: block("")},
		"round":              {2: block("", 3), 3: block("", 4), 4: block("", 7), 7: block("", 3)},
		"round to the root":  {2: block("", 3), 3: block("", 4, 5), 4: block(""), 5: block("", 2)},
	} {
		d := device(t, 8)
		lay(t, d, what)
		lay(t, d, map[int]string{0: begin(4, 2, 8, "new"), 1: begin(3, 0, 8, "old")})
		s, err := store.Open(d)
		if s != nil || err != api.EIO {
			t.Errorf("%s: %v, %v", name, s, err)
		}
		lay(t, d, map[int]string{0: begin(2, 2, 8, "elder")})
		is(t, opened(t, d), 0, "old", 3, 6)
	}
	// Sixteen kids, and 3900 bytes, may be.
	d := device(t, 8)
	data := strings.Repeat("\xfe", 3900)
	lay(t, d, map[int]string{1: begin(1, 2, 8, ""), 2: block(data, kids[:16]...), 3: block("")})
	s := opened(t, d)
	got(t, s, 2, data, kids[:16]...)
	refs(t, s, 3, 16, 0)
}

// tower lays so many blocks one below the other, the lowest one last.
func tower(t *testing.T, d *dev.Dev, top, high int) {
	t.Helper()
	what := map[int]string{top + high - 1: block("low")}
	for i := range high - 1 {
		what[top+i] = block("", top+i+1)
	}
	lay(t, d, what)
}

// P6.1, P6.2: how high a block is
func TestHigh(t *testing.T) {
	for _, c := range []struct {
		name string
		what map[int]string // beside a tower of 63 at 100
		ok   bool
	}{
		{"64", map[int]string{2: block("", 100)}, true},
		{"65", map[int]string{2: block("", 3), 3: block("", 100)}, false},
		{"65, the higher kid last", map[int]string{2: block("", 100, 3), 3: block("", 100)}, false},
		{"65, the higher kid first", map[int]string{2: block("", 3, 100), 3: block("", 100)}, false},
		{"64, from midway on", map[int]string{2: block("", 100, 4, 3), 3: block("", 4), 4: block("", 102)}, true},
		{"65, from midway on", map[int]string{2: block("", 100, 3), 3: block("", 4), 4: block("", 5), 5: block("", 102)}, false},
		{"65, from midway on, first", map[int]string{2: block("", 3, 100), 3: block("", 4), 4: block("", 5), 5: block("", 102)}, false},
		{"many ways", map[int]string{2: block("", 100, 101, 102, 110, 120, 130, 140, 150, 160, 161, 162, 100, 101, 102, 162, 100)}, true},
	} {
		d := device(t, 200)
		tower(t, d, 100, 63)
		lay(t, d, c.what)
		lay(t, d, map[int]string{1: begin(1, 2, 200, "")})
		s, err := store.Open(d)
		if c.ok && err != api.OK || !c.ok && (err != api.EIO || s != nil) {
			t.Errorf("%s: %v, %v", c.name, s, err)
		}
		if !c.ok || err != api.OK {
			continue
		}
		// How high what was opened is counts on.
		id, err := s.Put([]int{162, 2}, "")
		if id != 0 || err != api.EINVAL {
			t.Errorf("%s: above 64: %d, %v", c.name, id, err)
		}
		put(t, s, "", 162, 100)
	}
	// Many ways down, of which none is gone twice.
	d := device(t, 200)
	what := map[int]string{1: begin(1, 2, 200, ""), 65: block("low")}
	for i := 2; i < 65; i++ {
		what[i] = block("", i+1, i+1, i+1)
	}
	lay(t, d, what)
	s := opened(t, d)
	refs(t, s, 65, 3, 0)
	want(t, "Drop", s.Drop(2), api.OK)
	is(t, s, 2, "", 1, 134)
}

// P6.2: towers of Put
func TestPutHigh(t *testing.T) {
	d, s := format(t, 200)
	id := put(t, s, "low")
	for range 63 {
		id = put(t, s, "", id)
	}
	for _, kids := range [][]int{{id}, {2, id}, {id, 2}} {
		got, err := s.Put(kids, "")
		if got != 0 || err != api.EINVAL {
			t.Errorf("65 high: %d, %v", got, err)
		}
	}
	put(t, s, "", id-1)
	want(t, "Commit", s.Commit(id, ""), api.OK)
	s = opened(t, d)
	is(t, s, id, "", 2, 198-64, s.Live()...)
	_, err := s.Put([]int{id}, "")
	want(t, "65 high", err, api.EINVAL)
	put(t, s, "", id-1)
}

// P6.2, P6.8
func TestPut(t *testing.T) {
	d, s := format(t, 30)
	full := strings.Repeat("\x00\xff", 1950)
	if id := put(t, s, "a"); id != 2 {
		t.Errorf("Put: %d", id)
	}
	if id := put(t, s, ""); id != 3 {
		t.Errorf("Put: %d", id)
	}
	kids := []int{2, 3, 2, 2, 3, 2, 2, 2, 2, 2, 2, 2, 2, 2, 2, 2}
	if id := put(t, s, full, kids...); id != 4 {
		t.Errorf("Put: %d", id)
	}
	lies(t, d, 2, "\x00\x00\x01a"+seal("\x00\x00\x01a")[4:])
	lies(t, d, 3, block(""))
	lies(t, d, 4, block(full, kids...))
	refs(t, s, 2, 14, 0)
	refs(t, s, 3, 2, 0)
	refs(t, s, 4, 0, 0)
	got(t, s, 2, "a")
	got(t, s, 3, "")
	got(t, s, 4, full, kids...)
	is(t, s, 0, "", 1, 25, 2, 3, 4)
	if l := d.Dirty(); !slices.Equal(l, []int{2, 3, 4}) {
		t.Errorf("dirty: %v", l)
	}
	// One that is loose can be held, or named: both keep it there.
	want(t, "Hold", s.Hold(4), api.OK)
	refs(t, s, 4, 0, 1)
	put(t, s, "top", 4)
	refs(t, s, 4, 1, 1)
}

// P6.2: what can't be put
func TestPutErrors(t *testing.T) {
	d, s := format(t, 8)
	put(t, s, "a")
	put(t, s, "b", 2)
	many := make([]int, 17)
	for i := range many {
		many[i] = 2
	}
	long := strings.Repeat("x", 3901)
	refused := func(e api.Errno, data string, kids ...int) {
		t.Helper()
		before, was := s.Free(), d.Dirty()
		id, err := s.Put(kids, data)
		if id != 0 || err != e {
			t.Errorf("Put(%v, %d bytes): %d, %v, want %v", kids, len(data), id, err, e)
		}
		refs(t, s, 2, 1, 0)
		refs(t, s, 3, 0, 0)
		if s.Free() != before || !slices.Equal(d.Dirty(), was) {
			t.Errorf("Put(%v, %d bytes) changed something", kids, len(data))
		}
	}
	wrong := func() {
		t.Helper()
		refused(api.EINVAL, "", many...)
		refused(api.EINVAL, long)
		refused(api.EINVAL, long, many...)
		for _, id := range []int{math.MinInt, -1, 0, 1, 8, 1 << 32, 1<<32 + 2, math.MaxInt} {
			refused(api.EINVAL, "", id)
			refused(api.EINVAL, "", 2, id)
			refused(api.EINVAL, "", id, 2)
		}
		refused(api.EINVAL, "", make([]int, 1<<20)...)
	}
	wrong()
	refused(api.EINVAL, "", 4)
	refused(api.EINVAL, "", 2, 2, 7)
	// Wrong ahead of no power; full ahead of no power, too.
	want(t, "Fuse", d.Fuse(0), api.OK)
	wrong()
	refused(api.EIO, "x", 2)
	wrong()
	refused(api.EIO, "", 2)
	restart(t, d, 2, 3)
	for i := range 4 {
		if id := put(t, s, ""); id != 4+i {
			t.Errorf("Put: %d", id)
		}
	}
	wrong()
	refused(api.ENOSPC, "x", 2)
	refused(api.ENOSPC, "")
	want(t, "Crash", d.Crash(), api.OK)
	wrong()
	refused(api.ENOSPC, "", 3)
}

// P6.2: the least free block
func TestPutLeast(t *testing.T) {
	d, s := format(t, 12)
	for i := range 10 {
		if id := put(t, s, ""); id != 2+i {
			t.Errorf("Put: %d", id)
		}
		want(t, "Hold", s.Hold(2+i), api.OK)
	}
	for _, id := range []int{9, 4, 11} {
		want(t, "Drop", s.Drop(id), api.OK)
	}
	is(t, s, 0, "", 1, 3, 2, 3, 5, 6, 7, 8, 10)
	for _, id := range []int{4, 9, 11} {
		if got := put(t, s, "new"); got != id {
			t.Errorf("Put: %d, want %d", got, id)
		}
	}
	// What is kept is not free, even if it is not there any more.
	want(t, "Commit", s.Commit(5, ""), api.OK)
	want(t, "Drop", s.Drop(5), api.OK)
	want(t, "Drop", s.Drop(8), api.OK)
	is(t, s, 5, "", 2, 1, 2, 3, 4, 6, 7, 9, 10, 11)
	if id := put(t, s, "8"); id != 8 {
		t.Errorf("Put: %d", id)
	}
	_, err := s.Put(nil, "")
	want(t, "Put", err, api.ENOSPC)
	lies(t, d, 5, block(""))
	want(t, "Commit", s.Commit(6, ""), api.OK)
	is(t, s, 6, "", 3, 1, 2, 3, 4, 6, 7, 8, 9, 10, 11)
	if id := put(t, s, "5"); id != 5 {
		t.Errorf("Put: %d", id)
	}
}

// P6.2
func TestGet(t *testing.T) {
	d, s := format(t, 8)
	put(t, s, "a")
	put(t, s, "b", 2, 2)
	got(t, s, 3, "b", 2, 2)
	for _, id := range []int{math.MinInt, -1, 0, 1, 4, 7, 8, math.MaxInt} {
		none(t, s, id)
	}
	want(t, "Fuse", d.Fuse(0), api.OK)
	got(t, s, 3, "b", 2, 2) // no act
	// What lies there now, whoever wrote it.
	want(t, "Fuse", d.Fuse(-1), api.OK)
	for name, bytes := range map[string]string{
		"nothing": "", "no sum": "abc", "long": block(strings.Repeat("x", 3901)), "beginning": begin(1, 0, 8, ""),
		"more": seal("\x00\x00\x00\x00"), "kid 1": block("", 1), "kid beyond": block("", 8), "changed": block("b", 2, 2)[:19] + "\x01",
	} {
		lay(t, d, map[int]string{3: bytes})
		b, err := s.Get(3)
		want(t, name, err, api.EIO)
		if b.Kids != nil || b.Data != "" {
			t.Errorf("%s: %v", name, b)
		}
	}
	lay(t, d, map[int]string{3: block("other", 7, 3)})
	got(t, s, 3, "other", 7, 3)
	want(t, "Crash", d.Crash(), api.OK)
	b, err := s.Get(3)
	want(t, "without power", err, api.EIO)
	if b.Kids != nil || b.Data != "" {
		t.Errorf("without power: %v", b)
	}
	none(t, s, 4)
}

// P6.2: no power is needed to hold, drop and sweep
func TestHoldDrop(t *testing.T) {
	d, s := format(t, 20)
	a, b := put(t, s, "a"), put(t, s, "b")
	c := put(t, s, "c", a, b, a)
	e := put(t, s, "e", c, b)
	f := put(t, s, "f", c)
	want(t, "Crash", d.Crash(), api.OK)
	for _, id := range []int{math.MinInt, -1, 0, 1, 7, 19, 20, math.MaxInt} {
		want(t, "Hold", s.Hold(id), api.EINVAL)
		want(t, "Drop", s.Drop(id), api.EINVAL)
	}
	for _, id := range []int{a, c, e} {
		want(t, "Drop of what is not held", s.Drop(id), api.EINVAL)
	}
	for range 3 {
		want(t, "Hold", s.Hold(e), api.OK)
	}
	want(t, "Hold", s.Hold(a), api.OK)
	refs(t, s, e, 0, 3)
	refs(t, s, a, 2, 1)
	want(t, "Drop", s.Drop(e), api.OK)
	want(t, "Drop", s.Drop(e), api.OK)
	refs(t, s, e, 0, 1)
	refs(t, s, c, 2, 0)
	is(t, s, 0, "", 1, 13, a, b, c, e, f)
	// It goes; what it names is named once less, and stays, as long as something keeps it.
	want(t, "Drop", s.Drop(e), api.OK)
	none(t, s, e)
	refs(t, s, c, 1, 0)
	refs(t, s, b, 1, 0)
	is(t, s, 0, "", 1, 14, a, b, c, f)
	want(t, "Drop", s.Drop(e), api.EINVAL)
	// All goes with the last one, but what is held.
	want(t, "Hold", s.Hold(f), api.OK)
	want(t, "Drop", s.Drop(f), api.OK)
	is(t, s, 0, "", 1, 17, a)
	refs(t, s, a, 0, 1)
	want(t, "Drop", s.Drop(a), api.OK)
	is(t, s, 0, "", 1, 18)
}

// P6.2: one that is named, and held no more, stays; as do others that are loose
func TestDropStays(t *testing.T) {
	_, s := format(t, 20)
	a := put(t, s, "a")
	b := put(t, s, "b", a)
	loose := put(t, s, "loose")
	want(t, "Hold", s.Hold(a), api.OK)
	want(t, "Drop", s.Drop(a), api.OK)
	is(t, s, 0, "", 1, 15, a, b, loose)
	want(t, "Hold", s.Hold(b), api.OK)
	want(t, "Drop", s.Drop(b), api.OK)
	is(t, s, 0, "", 1, 17, loose)
	if id := put(t, s, "new"); id != a {
		t.Errorf("Put: %d", id)
	}
	refs(t, s, a, 0, 0)
}

// P6.2
func TestSweep(t *testing.T) {
	_, s := format(t, 20)
	if n := s.Sweep(); n != 0 {
		t.Errorf("Sweep of nothing: %d", n)
	}
	a := put(t, s, "a")
	b := put(t, s, "b", a)
	c := put(t, s, "c", b, a)
	e := put(t, s, "e", a, a)
	want(t, "Hold", s.Hold(e), api.OK)
	put(t, s, "loose")
	put(t, s, "loose too")
	// c, with it b, and two others; a is named yet.
	if n := s.Sweep(); n != 4 {
		t.Errorf("Sweep: %d", n)
	}
	is(t, s, 0, "", 1, 16, a, e)
	refs(t, s, a, 2, 0)
	none(t, s, c)
	if n := s.Sweep(); n != 0 {
		t.Errorf("Sweep once more: %d", n)
	}
	// What is kept alone is not swept: it is not there.
	want(t, "Commit", s.Commit(e, ""), api.OK)
	want(t, "Drop", s.Drop(e), api.OK)
	if n := s.Sweep(); n != 0 {
		t.Errorf("Sweep of what is kept: %d", n)
	}
	is(t, s, e, "", 2, 16)
}

// P6.3
func TestCommit(t *testing.T) {
	d, s := format(t, 8)
	a := put(t, s, "a")
	b := put(t, s, "b", a)
	full := strings.Repeat("n", 3900)
	want(t, "Commit", s.Commit(b, full), api.OK)
	is(t, s, b, full, 2, 4, a, b)
	if l := d.Dirty(); len(l) != 0 {
		t.Errorf("not flushed: %v", l)
	}
	lies(t, d, 0, begin(2, b, 8, full))
	lies(t, d, 1, begin(1, 0, 8, ""))
	want(t, "Commit", s.Commit(0, "none"), api.OK)
	is(t, s, 0, "none", 3, 4, a, b)
	lies(t, d, 0, begin(2, b, 8, full))
	lies(t, d, 1, begin(3, 0, 8, "none"))
	want(t, "Commit", s.Commit(a, ""), api.OK)
	lies(t, d, 0, begin(4, a, 8, ""))
	lies(t, d, 1, begin(3, 0, 8, "none"))
	// A root that is loose is kept, whatever becomes of it.
	refs(t, s, b, 0, 0)
	if n := s.Sweep(); n != 2 {
		t.Errorf("Sweep: %d", n)
	}
	is(t, s, a, "", 4, 5)
	s = opened(t, d)
	is(t, s, a, "", 4, 5, a)
	refs(t, s, a, 0, 1)
}

// P6.3
func TestCommitErrors(t *testing.T) {
	d, s := format(t, 8)
	a := put(t, s, "a")
	long := strings.Repeat("n", 3901)
	refused := func(e api.Errno, root int, note string) {
		t.Helper()
		r, n, g := s.Root()
		free, live, dirty := s.Free(), s.Live(), d.Dirty()
		want(t, "Commit", s.Commit(root, note), e)
		is(t, s, r, n, g, free, live...)
		if !slices.Equal(d.Dirty(), dirty) {
			t.Errorf("Commit(%d) wrote %v", root, d.Dirty())
		}
	}
	wrong := func() {
		t.Helper()
		for _, id := range []int{math.MinInt, -1, 1, 3, 7, 8, 1 << 32, math.MaxInt} {
			refused(api.EINVAL, id, "")
		}
		refused(api.EINVAL, 0, long)
		refused(api.EINVAL, a, long)
	}
	wrong()
	want(t, "Fuse", d.Fuse(0), api.OK)
	wrong()
	refused(api.EIO, a, "new")
	wrong()
	restart(t, d)

	// At the last generation.
	d = device(t, 8)
	lay(t, d, map[int]string{1: begin(most-1, 2, 8, "n"), 2: block("a")})
	s, a = opened(t, d), 2
	want(t, "Commit", s.Commit(a, "last"), api.OK)
	lies(t, d, 0, begin(most, 2, 8, "last"))
	wrong()
	refused(api.EOVERFLOW, a, "new")
	refused(api.EOVERFLOW, 0, "")
	s = opened(t, d)
	is(t, s, 2, "last", most, 5, 2)
	refused(api.EOVERFLOW, 0, "")
	want(t, "Crash", d.Crash(), api.OK)
	wrong()
	refused(api.EOVERFLOW, 0, "")
}

// old is a store with a root that is kept and dropped, and another one that is to be committed.
func old(t *testing.T) (d *dev.Dev, s *store.Store, was, is int) {
	t.Helper()
	d, s = format(t, 16)
	both := put(t, s, "both")
	was = put(t, s, "was", both, put(t, s, "old"))
	want(t, "Hold", s.Hold(was), api.OK)
	want(t, "Hold", s.Hold(both), api.OK)
	want(t, "Commit", s.Commit(was, "old"), api.OK)
	want(t, "Drop", s.Drop(was), api.OK)
	is = put(t, s, "is", put(t, s, "new"), both)
	want(t, "Hold", s.Hold(is), api.OK)
	return d, s, was, is
}

// P6.3: a flush, a write, a flush
func TestCommitActs(t *testing.T) {
	for fuse, dirty := range [][]int{{5, 6}, {}, {1}, {}} {
		d, s, was, id := old(t)
		live := s.Live()
		is(t, s, was, "old", 2, 9, live...)
		want(t, "Fuse", d.Fuse(fuse), api.OK)
		err := s.Commit(id, "new")
		if l := d.Dirty(); !slices.Equal(l, dirty) {
			t.Errorf("fuse of %d: %v are dirty, want %v", fuse, l, dirty)
		}
		if fuse == 3 {
			want(t, "Commit", err, api.OK)
			is(t, s, id, "new", 3, 11, live...)
			continue
		}
		// Nothing has changed here: what was kept is not free.
		want(t, "Commit", err, api.EIO)
		is(t, s, was, "old", 2, 9, live...)
		restart(t, d, d.Dirty()...)
		if got := put(t, s, ""); got != 7 {
			t.Errorf("Put: %d", got)
		}
		want(t, "Commit", s.Commit(id, "new"), api.OK)
		is(t, s, id, "new", 3, 10, append(live, 7)...)
	}
}

// P6.5: wherever the power goes, and whichever blocks are kept
func TestWhole(t *testing.T) {
	for fuse := range 4 {
		for keep := range 1 << 4 {
			d, s, was, id := old(t)
			loose := put(t, s, "loose")
			want(t, "Fuse", d.Fuse(fuse), api.OK)
			err := s.Commit(id, "new")
			var l []int
			begun := false
			for i, b := range []int{1, 5, 6, loose} {
				if keep>>i&1 == 1 {
					l = append(l, b)
					begun = begun || b == 1 && slices.Contains(d.Dirty(), 1)
				}
			}
			restart(t, d, l...)
			s = opened(t, d)
			root, note, gen := s.Root()
			if err == api.OK || begun {
				is(t, s, id, "new", 3, 11, 2, 5, 6)
				got(t, s, root, "is", 5, 2)
				got(t, s, 5, "new")
			} else {
				is(t, s, was, "old", 2, 11, 2, 3, 4)
				got(t, s, root, "was", 2, 3)
				got(t, s, 3, "old")
			}
			got(t, s, 2, "both")
			if t.Failed() {
				t.Fatalf("fuse of %d, %v kept: %d, %q, %d", fuse, l, root, note, gen)
			}
		}
	}
}

// DOC, Memory: what is handed in is neither changed nor kept, and no answer is shared.
func TestMemory(t *testing.T) {
	_, s := format(t, 10)
	put(t, s, "a")
	put(t, s, "b")
	room := []int{2, 2, 3, -7, -7, -7}
	id := put(t, s, "c", room[:3]...)
	if !slices.Equal(room, []int{2, 2, 3, -7, -7, -7}) {
		t.Errorf("Put changed %v", room)
	}
	clear(room)
	b, _ := s.Get(id)
	clear(b.Kids[:cap(b.Kids)])
	got(t, s, id, "c", 2, 2, 3)
	l := s.Live()
	clear(l[:cap(l)])
	is(t, s, 0, "", 1, 5, 2, 3, 4)
	if n := s.Sweep(); n != 3 {
		t.Errorf("Sweep: %d", n)
	}
	is(t, s, 0, "", 1, 8)
}

// Two stores know nothing of one another; nor do their devices.
func TestApart(t *testing.T) {
	d, s := format(t, 10)
	put(t, s, "a")
	want(t, "Commit", s.Commit(2, "a"), api.OK)
	c := d.Clone()
	o := opened(t, c)
	put(t, o, "b", 2)
	want(t, "Commit", o.Commit(3, "b"), api.OK)
	is(t, s, 2, "a", 2, 7, 2)
	is(t, opened(t, d), 2, "a", 2, 7, 2)
	is(t, opened(t, c), 3, "b", 3, 6, 2, 3)
	refs(t, s, 2, 0, 0)
}

// P6.4: of a store that no call made
func TestNotMade(t *testing.T) {
	long := strings.Repeat("n", 3901)
	for name, s := range map[string]*store.Store{"nil": nil, "plain": {}} {
		for _, id := range []int{-1, 0, 1, 2, 1 << 40} {
			want(t, name, s.Hold(id), api.ENIL)
			want(t, name, s.Drop(id), api.ENIL)
			want(t, name, s.Commit(id, ""), api.ENIL)
			want(t, name, s.Commit(id, long), api.ENIL)
			b, err := s.Get(id)
			want(t, name, err, api.ENIL)
			if !reflect.DeepEqual(b, api.Block{}) {
				t.Errorf("%s: Get: %v", name, b)
			}
			for _, data := range []string{"", long} {
				got, err := s.Put([]int{id}, data)
				want(t, name, err, api.ENIL)
				if got != 0 {
					t.Errorf("%s: Put: %d", name, got)
				}
			}
			if n, h, ok := s.Refs(id); n != 0 || h != 0 || ok {
				t.Errorf("%s: Refs: %d, %d, %v", name, n, h, ok)
			}
		}
		if n := s.Sweep(); n != 0 {
			t.Errorf("%s: Sweep: %d", name, n)
		}
		is(t, s, 0, "", 0, 0)
	}
}

// Chapter 6's example.
func TestExample(t *testing.T) {
	d, s := format(t, 8)
	if s.Free() != 6 {
		t.Errorf("Free: %d", s.Free())
	}
	if id := put(t, s, "a"); id != 2 {
		t.Errorf("Put: %d", id)
	}
	if id := put(t, s, "b", 2); id != 3 {
		t.Errorf("Put: %d", id)
	}
	want(t, "Hold", s.Hold(3), api.OK)
	want(t, "Commit", s.Commit(3, "n"), api.OK)
	restart(t, d)
	s = opened(t, d)
	is(t, s, 3, "n", 2, 4, 2, 3)
	got(t, s, 2, "a")
}
