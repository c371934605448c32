package script_test

import (
	"fmt"
	"math"
	"math/rand"
	"strconv"
	"strings"
	"testing"

	"crannog/script"
)

func is[T comparable](t *testing.T, what string, got, want T) {
	t.Helper()
	if got != want {
		t.Errorf("%s: %v, want %v", what, got, want)
	}
}

// P23.1
func TestWord(t *testing.T) {
	for _, c := range [][2]string{
		{"", "%"}, {"%", "%25"}, {"%%", "%25%25"}, {"%20", "%2520"}, {" ", "%20"}, {"a b", "a%20b"}, {"  ", "%20%20"},
		{"/", "/"}, {"/a/b", "/a/b"}, {"/.lost/c1a-3", "/.lost/c1a-3"}, {"a*c?", "a*c?"}, {"seen=3,0,5", "seen%3d3,0,5"},
		{"+:,._-", "+:,._-"}, {"AZaz09", "AZaz09"}, {"@[`{", "%40%5b%60%7b"}, {"#~", "%23%7e"}, {"\n", "%0a"}, {"\x00", "%00"}, {"\xff", "%ff"}, {"\x7f\x80", "%7f%80"},
		{"\u00e9", "%c3%a9"}, {"\xc3", "%c3"}, {"a\xc3b", "a%c3b"}, {"\u20ac\xf0", "%e2%82%ac%f0"}, {"A\xe9", "A%e9"},
	} {
		is(t, strconv.Quote(c[0]), script.Word(c[0]), c[1])
	}
	for i := range 256 {
		c := byte(i)
		want := string([]byte{c})
		if !strings.Contains("abcdefghijklmnopqrstuvwxyzABCDEFGHIJKLMNOPQRSTUVWXYZ0123456789/._-*?+:,", want) {
			want = fmt.Sprintf("%%%02x", c)
		}
		is(t, strconv.Itoa(i), script.Word(string([]byte{c})), want)
		is(t, strconv.Itoa(i), script.Word(string([]byte{c, 'x', c})), want+"x"+want)
	}
	long := strings.Repeat("a \xff", 100000)
	is(t, "a long one", script.Word(long), strings.Repeat("a%20%ff", 100000))
}

// P23.6
func TestUnlikeWords(t *testing.T) {
	of := map[string]string{}
	see := func(s string) {
		t.Helper()
		w := script.Word(s)
		if w == "" || strings.ContainsAny(w, " \n\t") {
			t.Fatalf("%q: %q", s, w)
		}
		if was, ok := of[w]; ok && was != s {
			t.Fatalf("%q and %q: %q", was, s, w)
		}
		of[w] = s
	}
	see("")
	for i := range 256 * 256 {
		see(string([]byte{byte(i / 256)}))
		see(string([]byte{byte(i / 256), byte(i)}))
	}
	r := rand.New(rand.NewSource(1))
	const signs = "%0123abcdef A\xff/"
	for range 100000 {
		b := make([]byte, r.Intn(8))
		for i := range b {
			b[i] = signs[r.Intn(len(signs))]
		}
		see(string(b))
	}
}

// P23.1
func TestNumber(t *testing.T) {
	for _, n := range []int{0, 1, -1, 9, 10, -10, 99, 100, 1 << 40, 1 << 53, -1 << 53, math.MaxInt, math.MinInt, math.MaxInt - 1, math.MinInt + 1} {
		got, ok := script.Number(fmt.Sprint(n))
		is(t, fmt.Sprint(n), got, n)
		is(t, fmt.Sprint(n), ok, true)
	}
	for _, w := range []string{
		"", "-", "+", "+1", "-0", "00", "01", "-01", "0x1", "1_0", "1.", ".1", "1.0", "1e3", " 1", "1 ", "--1", "a", "%", "1a", "\u0661", "1\x00",
		"9223372036854775808", "-9223372036854775809", "18446744073709551616", "99999999999999999999999", "none", "never", "\u22121", strings.Repeat("9", 100000),
	} {
		if n, ok := script.Number(w); n != 0 || ok {
			t.Errorf("%q: %d, %v", w, n, ok)
		}
	}
}

// P23.1
func TestTime(t *testing.T) {
	whole := float64(1 << 53)
	for _, c := range []struct {
		x float64
		w string
	}{
		{math.NaN(), "none"}, {math.Float64frombits(0xfff0000000000001), "none"}, {math.Inf(1), "never"}, {math.Inf(-1), "ever"}, {0, "0"}, {math.Copysign(0, -1), "-0"},
		{1, "1"}, {-1, "-1"}, {1e15, "1000000000000000"}, {-7e9, "-7000000000"}, {whole, "9007199254740992"}, {-whole, "-9007199254740992"}, {whole - 1, "9007199254740991"}, {1 - whole, "-9007199254740991"},
	} {
		w, ok := script.Time(c.x)
		is(t, c.w, w, c.w)
		is(t, c.w, ok, true)
	}
	for _, x := range []float64{
		0.5, -0.5, 1.5, math.SmallestNonzeroFloat64, -math.SmallestNonzeroFloat64, math.MaxFloat64, -math.MaxFloat64,
		math.Nextafter(whole, math.Inf(1)), math.Nextafter(-whole, math.Inf(-1)), 1e18, -1e18, 1e19, -1e19, whole/4 + 0.5, math.Nextafter(1, 0), math.Nextafter(1, 2),
	} {
		if w, ok := script.Time(x); w != "" || ok {
			t.Errorf("%v: %q, %v", x, w, ok)
		}
	}
}
