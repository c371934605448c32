package msg_test

import (
	"encoding/binary"
	"math"
	"math/rand"
	"strings"
	"testing"

	"crannog/api"
	"crannog/crc"
	"crannog/msg"
)

const most = api.MaxTime

func want(t *testing.T, what string, got, want api.Errno) {
	t.Helper()
	if got != want {
		t.Errorf("%s: %v, want %v", what, got, want)
	}
}

func mark(boot, n int) api.Mark { return api.Mark{Boot: boot, N: n} }

// number, text, marked and form are bytes, written once more from the document.
func number(n, width int) string {
	return string(binary.BigEndian.AppendUint64(nil, uint64(n))[8-width:])
}

func text(s string) string { return number(len(s), 2) + s }

func marked(k api.Mark) string { return number(k.Boot, 6) + number(k.N, 6) }

// form is a message as bytes, not sealed, whether it may be or not.
func form(m api.Msg) string {
	b := number(m.Kind, 1) + number(m.From, 1) + number(m.To, 1) + number(m.Vol, 1)
	for _, n := range m.Seen {
		b += number(n, 6)
	}
	switch m.Kind {
	case 1:
		b += marked(m.Base) + marked(m.Mark) + number(m.Index, 2)
	case 2:
		b += marked(m.Base) + marked(m.Mark) + number(m.Index, 2) + number(m.Total, 2) + text(m.Data)
	case 4:
		b += marked(m.Mark)
	}
	return b
}

// full has something in each place.
func full(kind int) api.Msg {
	return api.Msg{
		Kind: kind, From: 3, To: 5, Vol: 1, Base: mark(4, 9), Mark: mark(5, 1), Index: 7, Total: 8,
		Seen: api.Vector{1, 2, 3, 4, 5, 6, 7, 8}, Data: "data",
	}
}

// good are messages that may be, of each kind, with what they need alone and with more.
func good() []api.Msg {
	seen := api.Vector{3, 0, most, 1}
	return []api.Msg{
		{Kind: api.MAsk, To: 1},
		{Kind: api.MAsk, From: 7, Vol: 2, Seen: seen, Base: mark(1, 2)},
		{Kind: api.MAsk, From: 1, To: 7, Vol: 1, Seen: seen, Mark: mark(2, 1), Index: 1},
		{Kind: api.MAsk, From: 6, To: 5, Seen: seen, Base: mark(most, 1), Mark: mark(1, most), Index: 4095},
		{Kind: api.MPart, From: 2, Mark: mark(1, 1), Total: 1, Data: "x"},
		{Kind: api.MPart, From: 3, To: 4, Vol: 2, Seen: seen, Base: mark(1, 1), Mark: mark(1, 2), Index: 258, Total: 772, Data: "\x00\xff data"},
		{Kind: api.MPart, From: 4, To: 3, Vol: 2, Seen: seen, Base: mark(most, most), Mark: mark(most, most), Index: 4095, Total: 4096, Data: strings.Repeat("d", 512)},
		{Kind: api.MSame, From: 5, To: 6},
		{Kind: api.MSame, To: 1, Vol: 2, Seen: api.Vector{most, most, most, most, most, most, most, most}},
		{Kind: api.MGone, To: 7, Mark: mark(1, 1)},
		{Kind: api.MGone, From: 7, To: 6, Vol: 1, Seen: seen, Mark: mark(most, 70000)},
	}
}

// kinds are those of messages, and others.
var kinds = []int{math.MinInt, -1, 0, 1, 2, 3, 4, 5, 6, 255, 257, 258, math.MaxInt}

// bare is a message without what its kind does not have, in the words of the document.
func bare(m api.Msg) api.Msg {
	b := api.Msg{Kind: m.Kind, From: m.From, To: m.To, Vol: m.Vol, Seen: m.Seen}
	switch m.Kind {
	case 1:
		b.Base, b.Mark, b.Index = m.Base, m.Mark, m.Index
	case 2:
		b.Base, b.Mark, b.Index, b.Total, b.Data = m.Base, m.Mark, m.Index, m.Total, m.Data
	case 4:
		b.Mark = m.Mark
	}
	return b
}

// P18.1
func TestBare(t *testing.T) {
	for _, kind := range kinds {
		m := full(kind)
		if got := msg.Bare(m); got != bare(m) {
			t.Errorf("Bare: %v, want %v", got, bare(m))
		}
		// Whether it may be or not.
		odd := api.Msg{
			Kind: kind, From: -1, To: 9, Vol: math.MinInt, Base: mark(-1, 0), Mark: mark(0, math.MaxInt), Index: -7, Total: math.MaxInt,
			Seen: api.Vector{-1, math.MaxInt}, Data: strings.Repeat("x", 600),
		}
		if got := msg.Bare(odd); got != bare(odd) {
			t.Errorf("Bare: %v, want %v", got, bare(odd))
		}
	}
	for _, m := range good() {
		if got := msg.Bare(m); got != m {
			t.Errorf("Bare: %v, want %v", got, m)
		}
	}
}

// may tells whether a message may be, by Check and by Put.
func may(t *testing.T, m api.Msg, ok bool) {
	t.Helper()
	e, b := api.EFORM, ""
	if ok {
		e, b = api.OK, crc.Seal(form(m))
	}
	want(t, "Check of "+msg.Text(m), msg.Check(m), e)
	if got, err := msg.Put(m); got != b || err != e {
		t.Errorf("Put of %v: %q, %v, want %q, %v", m, got, err, b, e)
	}
	if ok {
		if got, err := msg.Get(b); got != m || err != api.OK {
			t.Errorf("Get of %v: %v, %v", m, got, err)
		}
	}
}

// P18.1, P18.2, P18.4
func TestGood(t *testing.T) {
	for _, m := range good() {
		may(t, m, true)
	}
	may(t, api.Msg{}, false)
	for _, kind := range kinds {
		may(t, full(kind), kind == api.MPart)
		m := msg.Bare(full(kind))
		may(t, m, kind >= 1 && kind <= 4)
	}
}

// P18.1: what all messages have, at the edges
func TestCheckHead(t *testing.T) {
	edges := []int{math.MinInt, -256, -1, 0, 1, 2, 3, 6, 7, 8, 255, 256, 257, math.MaxInt}
	for _, m := range good() {
		for _, n := range edges {
			for _, other := range edges {
				x := m
				x.From, x.To = n, other
				may(t, x, n >= 0 && n <= 7 && other >= 0 && other <= 7 && n != other)
			}
			x := m
			x.Vol = n
			may(t, x, n >= 0 && n <= 2)
		}
		for i := range m.Seen {
			for _, n := range []int{math.MinInt, -1, 0, 1, most - 1, most, most + 1, 1 << 48, math.MaxInt} {
				x := m
				x.Seen[i] = n
				may(t, x, n >= 0 && n <= most)
			}
		}
		for _, kind := range []int{math.MinInt, -255, -1, 0, 5, 255, 256 + m.Kind, math.MaxInt} {
			x := m
			x.Kind = kind
			may(t, x, false)
			may(t, msg.Bare(x), false)
		}
	}
}

// P18.1: marks, at the edges
func TestCheckMarks(t *testing.T) {
	edges := []int{math.MinInt, -1, 0, 1, 2, most - 1, most, most + 1, 1 << 48, math.MaxInt}
	for _, m := range good() {
		for _, boot := range edges {
			for _, n := range edges {
				k := mark(boot, n)
				none := k == api.Mark{}
				is := boot >= 1 && boot <= most && n >= 1 && n <= most
				x := m
				x.Base = k
				may(t, x, none || is && (m.Kind == api.MAsk || m.Kind == api.MPart))
				x = m
				x.Mark = k
				switch m.Kind {
				case api.MAsk:
					may(t, x, is || none && m.Index == 0)
				case api.MSame:
					may(t, x, none)
				default:
					may(t, x, is)
				}
			}
		}
	}
}

// P18.1: places, totals and data, at the edges
func TestCheckPlaces(t *testing.T) {
	edges := []int{math.MinInt, -1, 0, 1, 2, 257, 258, 259, 771, 772, 773, 4094, 4095, 4096, 4097, 1 << 16, math.MaxInt}
	for _, m := range good() {
		for _, n := range edges {
			x := m
			x.Index = n
			switch m.Kind {
			case api.MAsk:
				may(t, x, n == 0 || m.Mark != api.Mark{} && n >= 0 && n <= 4095)
			case api.MPart:
				may(t, x, n >= 0 && n < m.Total)
			default:
				may(t, x, n == 0)
			}
			x = m
			x.Total = n
			if m.Kind == api.MPart {
				may(t, x, n > m.Index && n <= 4096)
			} else {
				may(t, x, n == 0)
			}
			x.Index = n // a place that is the total is none
			may(t, x, m.Kind != api.MPart && n == 0)
		}
		for _, n := range []int{0, 1, 2, 511, 512, 513, 65536, 65537} {
			x := m
			x.Data = strings.Repeat("x", n)
			if m.Kind == api.MPart {
				may(t, x, n >= 1 && n <= 512)
			} else {
				may(t, x, n == 0)
			}
		}
	}
}

// P18.2: the very bytes
func TestPut(t *testing.T) {
	seen := "\x00\x00\x00\x00\x00\x03" + strings.Repeat("\x00", 6) + "\x00\x00\x00\x00\x00\x05" + strings.Repeat("\x00", 30)
	base, at := "\x00\x00\x00\x00\x01\x02\x00\x00\x00\x00\x00\x03", "\x01\x00\x00\x00\x00\x00\x00\x00\x00\x00\x00\x04"
	v := api.Vector{3, 0, 5}
	for _, c := range []struct {
		m api.Msg
		b string
	}{
		{api.Msg{Kind: 3, To: 1, Vol: 2, Seen: v}, "\x03\x00\x01\x02" + seen},
		{api.Msg{Kind: 4, From: 7, To: 6, Seen: v, Mark: mark(258, 3)}, "\x04\x07\x06\x00" + seen + base},
		{api.Msg{Kind: 1, From: 1, Vol: 1, Seen: v}, "\x01\x01\x00\x01" + seen + strings.Repeat("\x00", 26)},
		{api.Msg{Kind: 1, From: 1, Seen: v, Base: mark(258, 3), Mark: mark(most, 4), Index: 4095}, "\x01\x01\x00\x00" + seen + base + at + "\x0f\xff"},
		{api.Msg{Kind: 2, From: 1, Seen: v, Base: mark(258, 3), Mark: mark(most, 4), Index: 258, Total: 4096, Data: "abc"}, "\x02\x01\x00\x00" + seen + base + at + "\x01\x02\x10\x00\x00\x03abc"},
	} {
		if got, err := msg.Put(c.m); got != crc.Seal(c.b) || err != api.OK {
			t.Errorf("Put of %v: %q, %v, want %q", c.m, got, err, crc.Seal(c.b))
		}
		if got, err := msg.Get(crc.Seal(c.b)); got != c.m || err != api.OK {
			t.Errorf("Get of %q: %v, %v, want %v", c.b, got, err, c.m)
		}
	}
	b, err := msg.Put(api.Msg{Kind: api.MSame, To: 1})
	if n := len(b); n != 60 || b[52:] != sum(b[:52]) || err != api.OK {
		t.Errorf("Put: %d bytes, %v", n, err)
	}
}

// sum is a sum in the words of chapter 3, the lowest byte first.
func sum(b string) string {
	s := ^uint64(0)
	for i := range len(b) {
		s ^= uint64(b[i])
		for range 8 {
			low := s & 1
			s >>= 1
			if low == 1 {
				s ^= 0xc96c5795d7870f42
			}
		}
	}
	return string(binary.LittleEndian.AppendUint64(nil, ^s))
}

// no tells that bytes are no message.
func no(t *testing.T, what, s string) {
	t.Helper()
	if m, err := msg.Get(s); m != (api.Msg{}) || err != api.EFORM {
		t.Errorf("Get of %s: %v, %v", what, m, err)
	}
}

// P18.2: bytes of messages that may not be, sealed
func TestGetWrong(t *testing.T) {
	no(t, "nothing", "")
	no(t, "the seal of nothing", crc.Seal(""))
	for _, m := range good() {
		b := form(m)
		no(t, "what is not sealed", b)
		no(t, "what is sealed twice", crc.Seal(crc.Seal(b)))
		no(t, "a byte behind the seal", crc.Seal(b)+"\x00")
		for n := range len(b) {
			no(t, "a beginning", crc.Seal(b[:n]))
			no(t, "an end", crc.Seal(b[n+1:]))
		}
		no(t, "a byte more", crc.Seal(b+"\x00"))
		no(t, "a byte ahead", crc.Seal("\x00"+b))
		for _, change := range []func(m *api.Msg){
			func(m *api.Msg) { m.Kind = 0 },
			func(m *api.Msg) { m.Kind = 5 },
			func(m *api.Msg) { m.Kind = 255 },
			func(m *api.Msg) { m.From = 8 },
			func(m *api.Msg) { m.To = 8 },
			func(m *api.Msg) { m.To = 255 },
			func(m *api.Msg) { m.To = m.From },
			func(m *api.Msg) { m.Vol = 3 },
			func(m *api.Msg) { m.Vol = 255 },
			func(m *api.Msg) { m.Seen[0] = most + 1 },
			func(m *api.Msg) { m.Seen[7] = 1<<48 - 1 },
		} {
			x := m
			change(&x)
			no(t, "one that may not be", crc.Seal(form(x)))
		}
	}
	ask, part, gone := good()[3], good()[5], good()[10]
	for _, k := range []api.Mark{mark(0, 1), mark(1, 0), mark(most+1, 1), mark(1, most+1), mark(1<<48-1, 1<<48-1)} {
		for _, m := range []api.Msg{ask, part, gone} {
			x := m
			x.Mark = k
			no(t, "a mark that may not be", crc.Seal(form(x)))
			x = m
			x.Base = k
			if m.Kind != api.MGone {
				no(t, "a base that may not be", crc.Seal(form(x)))
			}
		}
	}
	for _, c := range []struct {
		m      api.Msg
		change func(m *api.Msg)
	}{
		{ask, func(m *api.Msg) { m.Mark = api.Mark{} }},
		{ask, func(m *api.Msg) { m.Index = 4096 }},
		{ask, func(m *api.Msg) { m.Index = 65535 }},
		{part, func(m *api.Msg) { m.Mark = api.Mark{} }},
		{part, func(m *api.Msg) { m.Index = m.Total }},
		{part, func(m *api.Msg) { m.Total = m.Index }},
		{part, func(m *api.Msg) { m.Index, m.Total = 0, 0 }},
		{part, func(m *api.Msg) { m.Total = 4097 }},
		{part, func(m *api.Msg) { m.Data = "" }},
		{part, func(m *api.Msg) { m.Data = strings.Repeat("x", 513) }},
		{gone, func(m *api.Msg) { m.Mark = api.Mark{} }},
	} {
		x := c.m
		c.change(&x)
		no(t, "one that may not be", crc.Seal(form(x)))
	}
	b := form(part)
	no(t, "a text longer than what is left", crc.Seal(b[:len(b)-1]))
	no(t, "a text shorter than what is left", crc.Seal(b+"x"))
}

// P18.2: whatever bytes are sealed, they are a message just if they are its Put
func TestGetAny(t *testing.T) {
	r := rand.New(rand.NewSource(18))
	for _, m := range good() {
		for range 2000 {
			b := []byte(form(m))
			for range 1 + r.Intn(3) {
				b[r.Intn(min(len(b), 90))] = []byte{0, 1, 2, 3, 4, 5, 7, 8, 16, 255, byte(r.Intn(256))}[r.Intn(11)]
			}
			s := crc.Seal(string(b))
			got, err := msg.Get(s)
			if err != api.OK {
				no(t, "no message", s)
				continue
			}
			if again, err := msg.Put(got); again != s || err != api.OK {
				t.Errorf("Get of %q: %v, whose Put is %q, %v", s, got, again, err)
			}
		}
	}
}

// P18.4
func TestBack(t *testing.T) {
	r := rand.New(rand.NewSource(4))
	time := func() int {
		if r.Intn(3) == 0 {
			return []int{1, 255, 256, 65536, most - 1, most}[r.Intn(6)]
		}
		return 1 + r.Intn(most)
	}
	for range 5000 {
		l := r.Perm(8)
		m := api.Msg{Kind: 1 + r.Intn(4), From: l[0], To: l[1], Vol: r.Intn(3), Mark: mark(time(), time())}
		for i := range r.Intn(9) {
			m.Seen[i] = time() * r.Intn(2)
		}
		if r.Intn(2) == 0 {
			m.Base = mark(time(), time())
		}
		m.Total = 1 + r.Intn(4096)
		m.Index = r.Intn(m.Total)
		data := make([]byte, 1+r.Intn(512))
		r.Read(data)
		m.Data = string(data)
		may(t, msg.Bare(m), true)
	}
}

// P18.5
func TestTold(t *testing.T) {
	for _, m := range good() {
		s, err := msg.Put(m)
		want(t, "Put", err, api.OK)
		for i := range len(s) {
			for d := 1; d < 256; d++ {
				if len(s) > 200 && d&(d-1) != 0 {
					continue // of a long one, one bit alone
				}
				b := []byte(s)
				b[i] ^= byte(d)
				no(t, "a message with a byte changed", string(b))
			}
		}
	}
}
