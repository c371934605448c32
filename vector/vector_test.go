package vector_test

import (
	"bytes"
	"encoding/binary"
	"math"
	"math/rand"
	"slices"
	"testing"

	"crannog/api"
	"crannog/octet"
	"crannog/vector"
)

const most = api.MaxTime

func stamp(time, who int) api.Stamp { return api.Stamp{Time: time, Who: who} }

// number, row and form are bytes, written once more from the document.
func number(n, width int) string {
	return string(binary.BigEndian.AppendUint64(nil, uint64(n))[8-width:])
}

func row(v api.Vector) string {
	b := ""
	for _, n := range v {
		b += number(n, 6)
	}
	return b
}

func form(s api.Stamp) string { return number(s.Time, 6) + number(s.Who, 1) }

// full has a number in each place.
func full(n int) api.Vector { return api.Vector{n, n, n, n, n, n, n, n} }

// one has a number in one place, and others elsewhere.
func one(i, n, others int) api.Vector {
	v := full(others)
	v[i] = n
	return v
}

// stamps are those at the edges, events and others.
func stamps() []api.Stamp {
	var l []api.Stamp
	for _, time := range []int{math.MinInt, -1, 0, 1, 2, 3, most - 1, most, most + 1, math.MaxInt} {
		for _, who := range []int{math.MinInt, -1, 0, 1, 6, 7, 8, math.MaxInt} {
			l = append(l, stamp(time, who))
		}
	}
	return l
}

// P9.1
func TestIs(t *testing.T) {
	times := map[int]bool{1: true, 2: true, 3: true, 26: true, most - 1: true, most: true}
	whos := map[int]bool{0: true, 1: true, 3: true, 6: true, 7: true}
	for _, s := range append(stamps(), stamp(26, 3)) {
		if want := times[s.Time] && whos[s.Who]; vector.Is(s) != want {
			t.Errorf("Is(%v): want %v", s, want)
		}
	}
}

// P9.1
func TestGood(t *testing.T) {
	for n, want := range map[int]bool{math.MinInt: false, -1: false, 0: true, 1: true, most - 1: true, most: true, most + 1: false, math.MaxInt: false} {
		for i := range api.MaxReps {
			for _, others := range []int{0, 5, most} {
				if v := one(i, n, others); vector.Good(v) != want {
					t.Errorf("Good(%v): want %v", v, want)
				}
			}
		}
	}
}

// P9.1
func TestLess(t *testing.T) {
	for _, c := range []struct {
		a, b api.Stamp
		want bool
	}{
		{stamp(1, 0), stamp(2, 0), true},
		{stamp(1, 7), stamp(2, 0), true},
		{stamp(2, 0), stamp(1, 7), false},
		{stamp(2, 3), stamp(2, 4), true},
		{stamp(2, 4), stamp(2, 3), false},
		{stamp(2, 3), stamp(2, 3), false},
		{stamp(0, 0), stamp(0, 1), true},
		{stamp(0, 1), stamp(1, 0), true},
		{stamp(-1, 9), stamp(0, -9), true},
		{stamp(math.MinInt, 0), stamp(math.MaxInt, 0), true},
		{stamp(math.MaxInt, 0), stamp(math.MinInt, 0), false},
		{stamp(5, math.MinInt), stamp(5, math.MaxInt), true},
		{stamp(5, math.MaxInt), stamp(5, math.MinInt), false},
	} {
		if vector.Less(c.a, c.b) != c.want {
			t.Errorf("Less(%v, %v): want %v", c.a, c.b, c.want)
		}
		later := c.a
		if c.want {
			later = c.b
		}
		if got := vector.Later(c.a, c.b); got != later {
			t.Errorf("Later(%v, %v): %v", c.a, c.b, got)
		}
	}
}

// P9.1
func TestHas(t *testing.T) {
	for who := range api.MaxReps {
		for _, c := range []struct {
			number, time int
			want         bool
		}{
			{0, 1, false}, {1, 1, true}, {2, 1, true}, {6, 7, false}, {7, 7, true}, {8, 7, true},
			{most, most, true}, {most - 1, most, false},
			{0, 0, false}, {0, -1, false}, {5, 0, false}, {5, -1, false}, {-1, -1, false}, {-1, 1, false},
			{math.MaxInt, most, true}, {math.MaxInt, most + 1, false}, {math.MaxInt, math.MinInt, false},
		} {
			for _, others := range []int{0, most} {
				v := one(who, c.number, others)
				if vector.Has(v, stamp(c.time, who)) != c.want {
					t.Errorf("Has(%v, %d of %d): want %v", v, c.time, who, c.want)
				}
			}
		}
	}
	for _, who := range []int{math.MinInt, -1, 8, math.MaxInt} {
		if vector.Has(full(most), stamp(1, who)) {
			t.Errorf("Has 1 of %d", who)
		}
	}
}

// P9.1
func TestWith(t *testing.T) {
	for _, s := range stamps() {
		for _, n := range []int{-4, 0, 1, 2, 3, 9, most - 1, most, most + 9} {
			v := full(n)
			want := v
			if vector.Is(s) && s.Time > n {
				want[s.Who] = s.Time
			}
			if got := vector.With(v, s); got != want {
				t.Errorf("With(%v, %v): %v", v, s, got)
			}
			if v != full(n) {
				t.Errorf("With(%v) changed it", s)
			}
		}
	}
}

// P9.1
func TestJoinMeetWithin(t *testing.T) {
	a := api.Vector{1, 5, 0, most, 7, -3, math.MinInt, 4}
	b := api.Vector{2, 3, 0, 9, 7, -4, math.MaxInt, 4}
	if got := vector.Join(a, b); got != (api.Vector{2, 5, 0, most, 7, -3, math.MaxInt, 4}) {
		t.Errorf("Join: %v", got)
	}
	if got := vector.Meet(a, b); got != (api.Vector{1, 3, 0, 9, 7, -4, math.MinInt, 4}) {
		t.Errorf("Meet: %v", got)
	}
	for i := range api.MaxReps {
		for _, c := range []struct {
			a, b int
			want bool
		}{{4, 5, true}, {5, 5, true}, {6, 5, false}, {math.MinInt, math.MaxInt, true}, {math.MaxInt, math.MinInt, false}, {-2, -1, true}, {-1, -2, false}} {
			if got := vector.Within(one(i, c.a, 3), one(i, c.b, 3)); got != c.want {
				t.Errorf("Within, place %d, %d of %d: %v", i, c.a, c.b, got)
			}
			if vector.Within(one(i, c.a, 4), one(i, c.b, 3)) {
				t.Errorf("Within, place %d, the others above", i)
			}
			if got := vector.Within(one(i, c.a, 2), one(i, c.b, 3)); got != c.want {
				t.Errorf("Within, place %d, the others below: %v", i, got)
			}
		}
	}
}

// P9.2, with the document's example
func TestNext(t *testing.T) {
	for _, c := range []struct {
		v    api.Vector
		who  int
		time int
		err  api.Errno
	}{
		{api.Vector{3, 5}, 2, 6, api.OK},
		{api.Vector{}, 0, 1, api.OK},
		{api.Vector{}, 7, 1, api.OK},
		{api.Vector{}, -1, 0, api.EINVAL},
		{api.Vector{}, 8, 0, api.EINVAL},
		{api.Vector{}, math.MinInt, 0, api.EINVAL},
		{api.Vector{}, math.MaxInt, 0, api.EINVAL},
		{one(7, 9, 2), 7, 10, api.OK},
		{one(7, 9, 2), 0, 10, api.OK},
		{one(0, 9, 2), 3, 10, api.OK},
		{one(4, most-1, 0), 4, most, api.OK},
		{one(4, most, 0), 4, 0, api.EOVERFLOW},
		{one(4, most, 0), 5, 0, api.EOVERFLOW},
		{full(most), 0, 0, api.EOVERFLOW},
		{one(4, most+1, 0), 5, 0, api.EINVAL},
		{one(4, math.MaxInt, 0), 4, 0, api.EINVAL},
		{one(4, -1, 0), 5, 0, api.EINVAL},
		{one(4, -1, most), 5, 0, api.EINVAL},
		{full(most), 8, 0, api.EINVAL},
	} {
		want := api.Stamp{}
		if c.err == api.OK {
			want = stamp(c.time, c.who)
		}
		if s, err := vector.Next(c.v, c.who); s != want || err != c.err {
			t.Errorf("Next(%v, %d): %v, %v", c.v, c.who, s, err)
		}
	}
}

// P9.3
func TestPut(t *testing.T) {
	for _, head := range []string{"", "a", "some bytes ahead"} {
		for _, v := range []api.Vector{{}, {1, 2, 3, 4, 5, 6, 7, 8}, {258, 0, most, most - 1, 1 << 32}, full(most), {-1, math.MinInt, math.MaxInt, 1<<48 + 5}} {
			if got := vector.Put([]byte(head), v); string(got) != head+row(v) {
				t.Errorf("Put(%q, %v): %q", head, v, got)
			}
		}
		for _, s := range append(stamps(), stamp(258, 3), stamp(1<<48+5, 256+4)) {
			if got := vector.PutStamp([]byte(head), s); string(got) != head+form(s) {
				t.Errorf("PutStamp(%q, %v): %q", head, s, got)
			}
		}
	}
	if got := vector.Put(nil, api.Vector{}); len(got) != 48 {
		t.Errorf("Put(nil): %q", got)
	}
	if got := vector.PutStamp(nil, stamp(258, 3)); string(got) != "\x00\x00\x00\x00\x01\x02\x03" {
		t.Errorf("PutStamp(nil): %q", got)
	}
}

// DOC, Memory: what is handed in stays, the room behind it too, and no answer shares it.
func TestPutMemory(t *testing.T) {
	for what, put := range map[string]func(b []byte) []byte{
		"Put":      func(b []byte) []byte { return vector.Put(b, full(5)) },
		"PutStamp": func(b []byte) []byte { return vector.PutStamp(b, stamp(5, 5)) },
	} {
		whole := bytes.Repeat([]byte{'x'}, 200)
		got := put(whole[:3])
		if string(whole) != string(bytes.Repeat([]byte{'x'}, 200)) {
			t.Errorf("%s wrote to what was handed in: %q", what, whole)
		}
		clear(whole)
		if string(got[:3]) != "xxx" {
			t.Errorf("%s shares what was handed in: %q", what, got)
		}
		other := put(nil)
		clear(other[:cap(other)])
		if again := put(nil); bytes.Equal(again, other) {
			t.Errorf("%s: %q", what, again)
		}
	}
}

// seen is the vector of bytes, and seenStamp the stamp: with how many are left behind it.
func seen(b string) (v api.Vector, left int, err api.Errno) {
	err = octet.Read([]byte(b), func(e *octet.Eye) { v, left = vector.See(e), e.Left() })
	return
}

func seenStamp(b string) (s api.Stamp, left int, err api.Errno) {
	err = octet.Read([]byte(b), func(e *octet.Eye) { s, left = vector.SeeStamp(e), e.Left() })
	return
}

// P9.3
func TestSee(t *testing.T) {
	for _, c := range []struct {
		b    string
		v    api.Vector
		left int
		err  api.Errno
	}{
		{row(api.Vector{}), api.Vector{}, 0, api.OK},
		{row(api.Vector{1, 2, 3, 4, 5, 6, 7, 8}), api.Vector{1, 2, 3, 4, 5, 6, 7, 8}, 0, api.OK},
		{row(full(most)), full(most), 0, api.OK},
		{row(full(2)) + "ab", full(2), 2, api.EFORM}, // as bytes are left
		{row(full(2))[1:], api.Vector{}, 0, api.EFORM},
		{row(full(2))[:47], api.Vector{}, 0, api.EFORM},
		{"", api.Vector{}, 0, api.EFORM},
		{row(one(0, most+1, 0)), api.Vector{}, 0, api.EFORM},
		{row(one(7, most+1, 0)), api.Vector{}, 0, api.EFORM},
		{row(one(3, -1, 0)), api.Vector{}, 0, api.EFORM},
	} {
		if v, left, err := seen(c.b); v != c.v || left != c.left || err != c.err {
			t.Errorf("See(%q): %v, %d, %v", c.b, v, left, err)
		}
	}
}

// P9.3
func TestSeeStamp(t *testing.T) {
	for _, c := range []struct {
		b    string
		s    api.Stamp
		left int
		err  api.Errno
	}{
		{form(stamp(0, 0)), stamp(0, 0), 0, api.OK},
		{form(stamp(1, 0)), stamp(1, 0), 0, api.OK},
		{form(stamp(258, 3)), stamp(258, 3), 0, api.OK},
		{form(stamp(most, 7)), stamp(most, 7), 0, api.OK},
		{form(stamp(258, 3)) + "a", stamp(258, 3), 1, api.EFORM},
		{form(stamp(0, 1)), stamp(0, 0), 0, api.EFORM},
		{form(stamp(0, 7)), stamp(0, 0), 0, api.EFORM},
		{form(stamp(1, 8)), stamp(0, 0), 0, api.EFORM},
		{form(stamp(1, 255)), stamp(0, 0), 0, api.EFORM},
		{form(stamp(most+1, 0)), stamp(0, 0), 0, api.EFORM},
		{form(stamp(-1, 0)), stamp(0, 0), 0, api.EFORM},
		{form(stamp(1, 1))[:6], stamp(0, 0), 0, api.EFORM},
		{"", stamp(0, 0), 0, api.EFORM},
	} {
		if s, left, err := seenStamp(c.b); s != c.s || left != c.left || err != c.err {
			t.Errorf("SeeStamp(%q): %v, %d, %v", c.b, s, left, err)
		}
	}
}

// P9.3: one behind the other; nothing behind what can't be is done.
func TestSeeInOrder(t *testing.T) {
	b := vector.PutStamp(vector.Put(vector.PutStamp(nil, stamp(4, 1)), full(9)), stamp(5, 2))
	var s, s2 api.Stamp
	var v api.Vector
	err := octet.Read(b, func(e *octet.Eye) { s, v, s2 = vector.SeeStamp(e), vector.See(e), vector.SeeStamp(e) })
	if err != api.OK || s != stamp(4, 1) || v != full(9) || s2 != stamp(5, 2) {
		t.Errorf("seen: %v, %v, %v, %v", s, v, s2, err)
	}
	for what, look := range map[string]func(e *octet.Eye){
		"See":      func(e *octet.Eye) { vector.See(e) },
		"SeeStamp": func(e *octet.Eye) { vector.SeeStamp(e) },
	} {
		went := false
		err := octet.Read(bytes.Repeat([]byte{255}, 200), func(e *octet.Eye) {
			look(e)
			went = true
		})
		if err != api.EFORM || went {
			t.Errorf("%s: %v, went on: %v", what, err, went)
		}
	}
}

// DOC, Objects: an eye that looks at nothing has zero answers.
func TestSeeBlind(t *testing.T) {
	var ended *octet.Eye
	octet.Read(vector.Put(nil, full(3)), func(e *octet.Eye) { ended = e })
	for what, e := range map[string]*octet.Eye{"none": nil, "plain": {}, "ended": ended} {
		if v, s := vector.See(e), vector.SeeStamp(e); v != (api.Vector{}) || s != (api.Stamp{}) {
			t.Errorf("%s: %v, %v", what, v, s)
		}
	}
}

// anyStamp is a random stamp that may be in bytes, often one near others.
func anyStamp(r *rand.Rand) api.Stamp {
	times := []int{0, 1, 2, 255, 256, 257, 1 << 32, most - 1, most}
	return stamp(times[r.Intn(len(times))], r.Intn(api.MaxReps))
}

func anyVector(r *rand.Rand, n int) api.Vector {
	var v api.Vector
	for i := range v {
		v[i] = r.Intn(n)
	}
	return v
}

// P9.4
func TestOrder(t *testing.T) {
	r := rand.New(rand.NewSource(1))
	for range 5000 {
		a, b, c := anyStamp(r), anyStamp(r), anyStamp(r)
		x, y := vector.PutStamp(nil, a), vector.PutStamp(nil, b)
		if want := bytes.Compare(x, y) < 0; vector.Less(a, b) != want {
			t.Errorf("Less(%v, %v): want %v", a, b, want)
		}
		if vector.Less(a, b) == vector.Less(b, a) && a != b {
			t.Errorf("%v and %v: none, or both, ahead", a, b)
		}
		if vector.Less(a, b) && vector.Less(b, c) && !vector.Less(a, c) {
			t.Errorf("%v, %v, %v: not in one order", a, b, c)
		}
		if later := vector.Later(a, b); later != vector.Later(b, a) || vector.Less(later, a) || vector.Less(later, b) {
			t.Errorf("Later(%v, %v): %v", a, b, later)
		}
	}
}

// P9.5
func TestJoined(t *testing.T) {
	r := rand.New(rand.NewSource(2))
	for range 5000 {
		a, b, c := anyVector(r, 4), anyVector(r, 4), anyVector(r, 4)
		j, m := vector.Join(a, b), vector.Meet(a, b)
		if !vector.Within(a, j) || !vector.Within(b, j) || !vector.Within(m, a) || !vector.Within(m, b) {
			t.Errorf("%v, %v: Join %v, Meet %v", a, b, j, m)
		}
		up, down := vector.Join(c, j), vector.Meet(c, m)
		for _, both := range []api.Vector{c, up} {
			if vector.Within(a, both) && vector.Within(b, both) != vector.Within(j, both) {
				t.Errorf("%v, %v are within %v, Join %v", a, b, both, j)
			}
		}
		for _, both := range []api.Vector{c, down} {
			if vector.Within(both, a) && vector.Within(both, b) != vector.Within(both, m) {
				t.Errorf("%v, %v: within both is %v, Meet %v", a, b, both, m)
			}
		}
		for i := range j {
			less := j
			less[i]--
			if vector.Within(a, less) && vector.Within(b, less) {
				t.Errorf("%v, %v: Join %v is not the least", a, b, j)
			}
			more := m
			more[i]++
			if vector.Within(more, a) && vector.Within(more, b) {
				t.Errorf("%v, %v: Meet %v is not the greatest", a, b, m)
			}
		}
	}
}

// P9.1: what is known by a Join, and by a Meet
func TestKnown(t *testing.T) {
	r := rand.New(rand.NewSource(3))
	for range 5000 {
		a, b := anyVector(r, 5), anyVector(r, 5)
		s := stamp(r.Intn(7)-1, r.Intn(api.MaxReps+2)-1)
		x, y := vector.Has(a, s), vector.Has(b, s)
		if vector.Has(vector.Join(a, b), s) != (x || y) || vector.Has(vector.Meet(a, b), s) != (x && y) {
			t.Errorf("%v of %v, %v", s, a, b)
		}
		w := vector.With(a, s)
		if vector.Has(w, s) != vector.Is(s) || !vector.Within(a, w) || x && w != a {
			t.Errorf("With(%v, %v): %v", a, s, w)
		}
		if vector.Within(a, b) && x && !y {
			t.Errorf("%v is within %v, and %v is not known there", a, b, s)
		}
	}
}

// P9.6
func TestBehind(t *testing.T) {
	r := rand.New(rand.NewSource(4))
	for range 2000 {
		v, who := anyVector(r, 9), r.Intn(api.MaxReps)
		next, err := vector.Next(v, who)
		if err != api.OK || !vector.Is(next) || next.Who != who {
			t.Fatalf("Next(%v, %d): %v, %v", v, who, next, err)
		}
		if less := vector.Meet(v, anyVector(r, 9)); vector.Has(v, next) || vector.Has(less, next) {
			t.Errorf("%v is known by %v, or by %v", next, v, less)
		}
		for i, n := range v {
			if last := stamp(n, i); !vector.Less(last, next) {
				t.Errorf("Next(%v, %d): %v stands behind %v", v, who, last, next)
			}
		}
		if next.Time != slices.Max(v[:])+1 {
			t.Errorf("Next(%v, %d): %v", v, who, next)
		}
	}
}

// P9.7
func TestBack(t *testing.T) {
	r := rand.New(rand.NewSource(5))
	for range 2000 {
		v, s := anyVector(r, most+1), anyStamp(r)
		if got, _, err := seen(string(vector.Put(nil, v))); got != v || err != api.OK {
			t.Errorf("See of Put(%v): %v, %v", v, got, err)
		}
		if !vector.Is(s) {
			s = api.Stamp{}
		}
		if got, _, err := seenStamp(string(vector.PutStamp(nil, s))); got != s || err != api.OK {
			t.Errorf("SeeStamp of PutStamp(%v): %v, %v", s, got, err)
		}
	}
}
