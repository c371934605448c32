// Package crc is layer 3: see ../../shared/doc/03-crc.md.
package crc

const (
	poly  = 0xc96c5795d7870f42
	width = 8 // bytes of a sum
)

// More is a sum, gone on with bytes.
func More(sum uint64, b string) uint64 {
	sum = ^sum
	for i := range len(b) {
		sum ^= uint64(b[i])
		for range 8 {
			fell := sum & 1
			// All bits of -fell are what fell out: no branch, since every byte of a device comes by here.
			sum = sum>>1 ^ poly&-fell
		}
	}
	return ^sum
}

// Of is the sum of bytes.
func Of(b string) uint64 { return More(0, b) }

// Seal is bytes with their sum behind them, the lowest byte first.
func Seal(b string) string {
	sum := Of(b)
	var end [width]byte
	for i := range width {
		end[i] = byte(sum >> (8 * i))
	}
	return b + string(end[:])
}

// Open is what stands ahead of a sum, changed or not; false: the sum is not that.
func Open(s string) (string, bool) {
	if len(s) < width {
		return "", false
	}
	b := s[:len(s)-width]
	return b, Seal(b) == s
}
