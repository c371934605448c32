// Package instant is layer 2: see ../../shared/doc/02-instant.md.
package instant

import (
	"math"

	"crannog/api"
)

const (
	zero = 1 << 63 // the bits of both zeros, which stand in the middle
	far  = 1 << 53 // beyond it floats pass over whole numbers
)

// Of is a time's bits: they stand in order as times do. Both zeros are one; what is no number is none.
func Of(x float64) (uint64, api.Errno) {
	bits := math.Float64bits(x)
	switch {
	case math.IsNaN(x):
		return 0, api.ENAN
	case x == 0:
		return zero, api.OK
	case x > 0:
		return bits | zero, api.OK
	}
	return ^bits, api.OK
}

// Good tells whether bits are a time's.
func Good(k uint64) bool {
	_, err := To(k)
	return err == api.OK
}

// To is the time of bits; an error: they are none's.
func To(k uint64) (float64, api.Errno) {
	bits := k &^ zero
	if k < zero {
		bits = ^k
	}
	x := math.Float64frombits(bits)
	if back, err := Of(x); err != api.OK || back != k {
		return 0, api.ENAN
	}
	return x, api.OK
}

// end is the bits of the time without end, below 0 or above.
func end(sign int) uint64 {
	k, _ := Of(math.Inf(sign))
	return k
}

// The least and the greatest time: without end, both ways.
func First() uint64 { return end(-1) }

func Last() uint64 { return end(1) }

// of is the bits of what is made of two times.
func of(a, b uint64, made func(x, y float64) float64) (uint64, api.Errno) {
	x, err := To(a)
	if err != api.OK {
		return 0, err
	}
	y, err := To(b)
	if err != api.OK {
		return 0, err
	}
	return Of(made(x, y))
}

// Add is a time, another one later; without end less without end is none.
func Add(a, b uint64) (uint64, api.Errno) {
	return of(a, b, func(x, y float64) float64 { return x + y })
}

// Mid is a time between two: half of one and half of the other; of both ends 0.
func Mid(a, b uint64) (uint64, api.Errno) {
	return of(a, b, func(x, y float64) float64 {
		if math.IsInf(x, 0) && x == -y {
			return 0
		}
		// Each half is rounded for itself: without the conversions a half and the sum may be rounded as one.
		return float64(x/2) + float64(y/2)
	})
}

// Next is the least time above one; the last one's is itself.
func Next(k uint64) (uint64, api.Errno) {
	x, err := To(k)
	if err != api.OK {
		return 0, err
	}
	return Of(math.Nextafter(x, math.Inf(1)))
}

// Whole is the greatest whole number that is not above a time; an error: it is too far from 0.
func Whole(k uint64) (int, api.Errno) {
	x, err := To(k)
	if err != api.OK {
		return 0, err
	}
	if x < -far || x > far {
		return 0, api.EOVERFLOW
	}
	return int(math.Floor(x)), api.OK
}

// Since is how long a time is behind another one, at least 0.
func Since(a, b uint64) (uint64, api.Errno) {
	return of(a, b, func(x, y float64) float64 {
		if x <= y {
			return 0
		}
		return x - y
	})
}
