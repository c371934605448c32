package instant_test

import (
	"math"
	"testing"

	"crannog/api"
	"crannog/instant"
)

const (
	zero  = 1 << 63
	least = math.SmallestNonzeroFloat64
	great = math.MaxFloat64
)

var (
	inf  = math.Inf(1)
	none = math.NaN()
	neg0 = math.Copysign(0, -1)
)

// rising is times in order, edges among them.
func rising() []float64 {
	half := []float64{0x1p-1022 - least, 0x1p-1022, 0x1p-1021, 1e-300, 0.1, 0.5, math.Nextafter(1, 0), 1, math.Nextafter(1, 2), 1.5, 2, 2.5, 3, 1e9, 0x1p52 + 0.5, 0x1p53 - 1, 0x1p53, 0x1p53 + 2, 1e300, great / 2, great, inf}
	half = append([]float64{least, 2 * least, 3 * least}, half...)
	var l []float64
	for i := range half {
		l = append(l, -half[len(half)-1-i])
	}
	return append(append(l, 0), half...)
}

// of is Of of a time that has one.
func of(t *testing.T, x float64) uint64 {
	t.Helper()
	k, e := instant.Of(x)
	if e != api.OK {
		t.Fatal("Of:", x, e)
	}
	return k
}

// bad is bits that are no time's: all kinds of them.
func bad() []uint64 {
	return []uint64{zero - 1, 0, 1, 0x000fffffffffffff - 1, 0xfff0000000000001, 0xfff8000000000000, 0xfff8000000000001, math.MaxUint64}
}

// P2.1
func TestOf(t *testing.T) {
	for _, c := range []struct {
		x    float64
		want uint64
	}{
		{0, zero}, {neg0, zero}, {1, 0xbff0000000000000}, {-1, 0x400fffffffffffff},
		{least, zero + 1}, {-least, zero - 2}, {great, 0xffefffffffffffff}, {-great, 0x0010000000000000},
		{inf, 0xfff0000000000000}, {-inf, 0x000fffffffffffff}, {2.5, 0xc004000000000000}, {-2.5, 0x3ffbffffffffffff},
	} {
		if k, e := instant.Of(c.x); k != c.want || e != api.OK {
			t.Errorf("Of(%v): %x, %d", c.x, k, e)
		}
		if !instant.Good(c.want) {
			t.Errorf("Good(%x)", c.want)
		}
		if x, e := instant.To(c.want); x != c.x || e != api.OK || math.Signbit(x) != (c.x < 0) {
			t.Errorf("To(%x): %v, %d", c.want, x, e)
		}
	}
	for _, x := range []float64{none, math.Copysign(none, -1), math.Float64frombits(0x7ff0000000000001), math.Float64frombits(math.MaxUint64)} {
		if k, e := instant.Of(x); k != 0 || e != api.ENAN {
			t.Error("Of none:", k, e)
		}
	}
	for _, k := range bad() {
		if x, e := instant.To(k); x != 0 || math.Signbit(x) || e != api.ENAN || instant.Good(k) {
			t.Errorf("To(%x): %v, %d", k, x, e)
		}
	}
	if instant.First() != of(t, -inf) || instant.Last() != of(t, inf) {
		t.Error("First, Last")
	}
}

// P2.1: Good is what Of answers, around each edge.
func TestGoodEdges(t *testing.T) {
	for _, c := range []struct {
		k    uint64
		want bool
	}{
		{0x000ffffffffffffe, false}, {0x000fffffffffffff, true}, {0x0010000000000000, true},
		{zero - 2, true}, {zero - 1, false}, {zero, true}, {zero + 1, true},
		{0xffefffffffffffff, true}, {0xfff0000000000000, true}, {0xfff0000000000001, false},
	} {
		if instant.Good(c.k) != c.want {
			t.Errorf("Good(%x)", c.k)
		}
	}
}

// P2.2
func TestAdd(t *testing.T) {
	for _, c := range []struct{ x, y, want float64 }{
		{1, 2, 3}, {0.1, 0.2, 0.30000000000000004}, {1, -1, 0}, {-1, -2.5, -3.5}, {0x1p53, 1, 0x1p53},
		{great, great, inf}, {-great, -great, -inf}, {great, -great, 0}, {great, 1, great},
		{inf, inf, inf}, {-inf, -inf, -inf}, {inf, -great, inf}, {-inf, great, -inf}, {least, least, 2 * least}, {0, 0, 0},
	} {
		if k, e := instant.Add(of(t, c.x), of(t, c.y)); k != of(t, c.want) || e != api.OK {
			t.Errorf("Add(%v, %v): %x, %d", c.x, c.y, k, e)
		}
	}
	for _, x := range []float64{inf, -inf} {
		if k, e := instant.Add(of(t, x), of(t, -x)); k != 0 || e != api.ENAN {
			t.Error("both infinities:", k, e)
		}
	}
}

// P2.2
func TestMid(t *testing.T) {
	for _, c := range []struct{ x, y, want float64 }{
		{1, 2, 1.5}, {1, 1, 1}, {-1, 1, 0}, {-3, 0, -1.5}, {great, great, great}, {-great, -great, -great}, {great, -great, 0},
		{inf, -inf, 0}, {-inf, inf, 0}, {inf, inf, inf}, {-inf, -inf, -inf}, {inf, -great, inf}, {0, -inf, -inf},
		{least, least, 0}, {3 * least, 0, 2 * least}, {3 * least, 3 * least, 4 * least}, {least, 3 * least, 2 * least}, {5 * least, least, 2 * least},
		{-least, 0, 0}, {-3 * least, least, -2 * least}, {-least, -least, 0},
	} {
		if k, e := instant.Mid(of(t, c.x), of(t, c.y)); k != of(t, c.want) || e != api.OK {
			t.Errorf("Mid(%v, %v): %x, %d", c.x, c.y, k, e)
		}
	}
}

// P2.2
func TestSince(t *testing.T) {
	for _, c := range []struct{ x, y, want float64 }{
		{3, 1, 2}, {1, 3, 0}, {1, 1, 0}, {1, -1, 2}, {-2.5, 0, 0}, {0, -2.5, 2.5}, {great, -great, inf}, {-great, great, 0},
		{inf, inf, 0}, {-inf, -inf, 0}, {inf, -inf, inf}, {-inf, inf, 0}, {inf, great, inf}, {0, -inf, inf}, {-inf, 0, 0},
		{0.3, 0.1, 0.19999999999999998}, {2 * least, least, least},
	} {
		if k, e := instant.Since(of(t, c.x), of(t, c.y)); k != of(t, c.want) || e != api.OK {
			t.Errorf("Since(%v, %v): %x, %d", c.x, c.y, k, e)
		}
	}
}

// P2.2, P2.3: of bits that are no time's.
func TestBad(t *testing.T) {
	for _, k := range bad() {
		for name, f := range map[string]func(a, b uint64) (uint64, api.Errno){"Add": instant.Add, "Mid": instant.Mid, "Since": instant.Since} {
			for _, good := range []uint64{zero, instant.First(), instant.Last(), k} {
				if n, e := f(k, good); n != 0 || e != api.ENAN {
					t.Errorf("%s(%x, %x): %x, %d", name, k, good, n, e)
				}
				if n, e := f(good, k); n != 0 || e != api.ENAN {
					t.Errorf("%s(%x, %x): %x, %d", name, good, k, n, e)
				}
			}
		}
		if n, e := instant.Next(k); n != 0 || e != api.ENAN {
			t.Errorf("Next(%x): %x, %d", k, n, e)
		}
		if n, e := instant.Whole(k); n != 0 || e != api.ENAN {
			t.Errorf("Whole(%x): %d, %d", k, n, e)
		}
	}
}

// P2.3
func TestNext(t *testing.T) {
	for _, c := range []struct{ x, want float64 }{
		{0, least}, {neg0, least}, {least, 2 * least}, {-least, 0}, {-2 * least, -least}, {1, 1 + 0x1p-52}, {-1, -1 + 0x1p-53},
		{great, inf}, {inf, inf}, {-inf, -great}, {0x1p53, 0x1p53 + 2},
	} {
		if k, e := instant.Next(of(t, c.x)); k != of(t, c.want) || e != api.OK {
			t.Errorf("Next(%v): %x, %d", c.x, k, e)
		}
	}
}

// P2.3
func TestWhole(t *testing.T) {
	for _, c := range []struct {
		x    float64
		want int
		e    api.Errno
	}{
		{0, 0, api.OK}, {-0.5, -1, api.OK}, {0.5, 0, api.OK}, {2, 2, api.OK}, {-2, -2, api.OK}, {-2.5, -3, api.OK}, {2.99, 2, api.OK},
		{least, 0, api.OK}, {-least, -1, api.OK},
		{0x1p53, 1 << 53, api.OK}, {-0x1p53, -1 << 53, api.OK}, {0x1p53 - 1, 1<<53 - 1, api.OK}, {0x1p52 + 0.5, 1 << 52, api.OK},
		{0x1p53 + 2, 0, api.EOVERFLOW}, {-0x1p53 - 2, 0, api.EOVERFLOW}, {great, 0, api.EOVERFLOW}, {inf, 0, api.EOVERFLOW}, {-inf, 0, api.EOVERFLOW},
	} {
		if n, e := instant.Whole(of(t, c.x)); n != c.want || e != c.e {
			t.Errorf("Whole(%v): %d, %d", c.x, n, e)
		}
	}
}

// P2.4, P2.5
func TestOrderAndBack(t *testing.T) {
	l := rising()
	for i, x := range l {
		k := of(t, x)
		if y, e := instant.To(k); y != x || e != api.OK || !instant.Good(k) {
			t.Error("not back:", x, y, e)
		}
		for j, y := range l {
			if (k < of(t, y)) != (i < j) || (k == of(t, y)) != (i == j) {
				t.Error("not in order:", x, y)
			}
		}
	}
}

// P2.6: no good bits stand between a time's and its Next's, but for the last one.
func TestBetween(t *testing.T) {
	for _, x := range rising() {
		k := of(t, x)
		n, e := instant.Next(k)
		if e != api.OK {
			t.Error(x, e)
		}
		if x == inf {
			continue
		}
		if n <= k || n-k > 2 || n-k == 2 && instant.Good(k+1) {
			t.Errorf("between %x and %x", k, n)
		}
	}
}

// P2.7, P2.8
func TestSumsAndMiddle(t *testing.T) {
	l := rising()
	for _, x := range l {
		low := uint64(0)
		for _, y := range l {
			a, b := of(t, x), of(t, y)
			n, e := instant.Add(a, b)
			m, f := instant.Add(b, a)
			if n != m || e != f {
				t.Error("Add goes one way:", x, y)
			}
			if e == api.OK && n < low {
				t.Error("a lesser sum:", x, y)
			}
			low = max(low, n)
			near := math.Abs(x) < 0x1p-1021 || math.Abs(y) < 0x1p-1021
			if k, e := instant.Mid(a, b); e != api.OK || !near && (k < min(a, b) || k > max(a, b)) {
				t.Error("Mid lies outside:", x, y, e)
			}
		}
	}
}
