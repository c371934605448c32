package crc_test

import (
	"hash/crc64"
	"strings"
	"testing"

	"crannog/crc"
)

// bytes is so many bytes of a row that begins anew for each seed.
func bytes(seed, n int) string {
	x := uint64(seed)*2 + 1
	var b strings.Builder
	for range n {
		x = x*6364136223846793005 + 1442695040888963407
		b.WriteByte(byte(x >> 56))
	}
	return b.String()
}

// P3.1
func TestOf(t *testing.T) {
	if n := crc.Of("123456789"); n != 0x995dc9bbdf1939fa {
		t.Errorf("%x", n)
	}
	if n := crc.Of(""); n != 0 {
		t.Errorf("of nothing: %x", n)
	}
	table := crc64.MakeTable(crc64.ECMA)
	for n := range 300 {
		b := bytes(n, n)
		if crc.Of(b) != crc64.Checksum([]byte(b), table) {
			t.Errorf("Of %d bytes", n)
		}
		sum := uint64(n) * 0x9e3779b97f4a7c15
		if crc.More(sum, b) != crc64.Update(sum, table, []byte(b)) {
			t.Errorf("More of %d bytes", n)
		}
	}
	for i := range 256 {
		b := string([]byte{byte(i)})
		if crc.Of(b) != crc64.Checksum([]byte(b), table) {
			t.Errorf("Of %q", b)
		}
	}
}

// P3.1
func TestSeal(t *testing.T) {
	if s := crc.Seal("123456789"); s != "123456789\xfa\x39\x19\xdf\xbb\xc9\x5d\x99" {
		t.Errorf("%q", s)
	}
	if s := crc.Seal(""); s != strings.Repeat("\x00", 8) {
		t.Errorf("%q", s)
	}
}

// P3.1
func TestOpen(t *testing.T) {
	for n := range 20 {
		b := bytes(n, n)
		if got, ok := crc.Open(crc.Seal(b)); got != b || !ok {
			t.Errorf("%q: %q, %v", b, got, ok)
		}
	}
	for _, c := range []struct {
		s, want string
		ok      bool
	}{
		{"", "", false}, {"short", "", false}, {"1234567", "", false},
		{strings.Repeat("\x00", 7), "", false}, {strings.Repeat("\x00", 8), "", true}, {strings.Repeat("\x00", 9), "\x00", false},
		{"12345678", "", false}, {"abc12345678", "abc", false},
		{"123456789\x99\x5d\xc9\xbb\xdf\x19\x39\xfa", "123456789", false},
		{crc.Seal("abc") + "d", "abc" + crc.Seal("abc")[3:4], false},
	} {
		if got, ok := crc.Open(c.s); got != c.want || ok != c.ok {
			t.Errorf("Open(%q): %q, %v", c.s, got, ok)
		}
	}
}

// P3.2
func TestParts(t *testing.T) {
	b := bytes(7, 40)
	for i := range len(b) + 1 {
		if crc.More(crc.Of(b[:i]), b[i:]) != crc.Of(b) {
			t.Error(i)
		}
		if crc.More(crc.Of(b[:i]), "") != crc.Of(b[:i]) {
			t.Error("nothing more:", i)
		}
		for j := range i {
			if crc.More(crc.More(crc.More(5, b[:j]), b[j:i]), b[i:]) != crc.More(5, b) {
				t.Error(j, i)
			}
		}
	}
}

// P3.3: each byte, and each other one in its place.
func TestTold(t *testing.T) {
	for _, b := range []string{"", "a", "123456789", bytes(3, 30)} {
		s := crc.Seal(b)
		for i := range len(s) {
			for d := 1; d < 256; d++ {
				x := []byte(s)
				x[i] ^= byte(d)
				if _, ok := crc.Open(string(x)); ok {
					t.Errorf("%q is opened", x)
				}
			}
		}
	}
}

// P3.4
func TestOthers(t *testing.T) {
	for n := 1; n <= 40; n++ {
		b := bytes(n, n)
		for at := range n {
			wide := min(8, n-at)
			for seed := range 50 {
				x := []byte(b)
				for i, d := range []byte(bytes(100+seed, wide)) {
					x[at+i] ^= d
				}
				if string(x) != b && crc.Of(string(x)) == crc.Of(b) {
					t.Errorf("%q and %q", x, b)
				}
			}
			for i := range wide { // one bit, and two
				for bit := range 8 {
					x := []byte(b)
					x[at] ^= 1
					x[at+i] ^= 1 << bit
					if string(x) != b && crc.Of(string(x)) == crc.Of(b) {
						t.Errorf("%q and %q", x, b)
					}
				}
			}
		}
	}
}
