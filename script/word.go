package script

import (
	"math"
	"strconv"
	"strings"
)

const (
	mark     = "%" // ahead of a byte's two digits; alone it is the empty text
	digits   = "0123456789abcdef"
	hex      = len(digits)
	byteBits = 8
	plain    = "/._-*?+:," // what stands as it is, beside letters and digits
	maxWhole = 1 << 53     // up to there each whole number is a float
)

// Word is a text as a word: bytes that may not stand there as % and two digits; nothing as % alone.
func Word(s string) string {
	if s == "" {
		return mark
	}
	var b strings.Builder
	for i := range len(s) {
		if stands(s[i]) {
			b.WriteByte(s[i])
			continue
		}
		b.WriteString(mark)
		b.WriteByte(digits[int(s[i])/hex])
		b.WriteByte(digits[int(s[i])%hex])
	}
	return b.String()
}

// stands tells whether a byte stands in a word as it is.
func stands(c byte) bool {
	return c >= 'a' && c <= 'z' || c >= 'A' && c <= 'Z' || c >= '0' && c <= '9' || strings.IndexByte(plain, c) >= 0
}

// textOf is the text of a word; false: it is no text's.
func textOf(w string) (string, bool) {
	if w == mark {
		return "", true
	}
	l := strings.Split(w, mark)
	b := []byte(l[0])
	for _, s := range l[1:] {
		two := s[:min(len(s), 2)]
		n, _ := strconv.ParseUint(two, hex, byteBits)
		b = append(append(b, byte(n)), s[len(two):]...)
	}
	s := string(b)
	return s, w == Word(s) // a text has one word: what could not be read comes to another one
}

// Number is a number of a word; false: it is none.
func Number(w string) (int, bool) {
	n, err := strconv.Atoi(w)
	if err != nil || strconv.Itoa(n) != w {
		return 0, false
	}
	return n, true
}

// Time is a time as a word; false: it has none.
func Time(x float64) (string, bool) {
	switch {
	case math.IsNaN(x):
		return "none", true
	case math.IsInf(x, 1):
		return "never", true
	case math.IsInf(x, -1):
		return "ever", true
	case x == 0 && math.Signbit(x):
		return "-0", true
	case math.Abs(x) <= maxWhole && x == math.Trunc(x):
		return strconv.FormatInt(int64(x), 10), true
	}
	return "", false
}

// timeOf is the time of a word; false: it is no time's.
func timeOf(w string) (float64, bool) {
	for _, x := range []float64{math.NaN(), math.Inf(1), math.Inf(-1), math.Copysign(0, -1)} {
		if word, _ := Time(x); word == w {
			return x, true
		}
	}
	n, ok := Number(w)
	x := float64(n)
	word, _ := Time(x)
	return x, ok && word == w // a number that is no float comes to another one
}
