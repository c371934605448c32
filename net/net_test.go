package net_test

import (
	"math"
	"math/rand"
	"slices"
	"strconv"
	"testing"

	"crannog/api"
	"crannog/net"
)

func want(t *testing.T, what string, got, want api.Errno) {
	t.Helper()
	if got != want {
		t.Errorf("%s: %v, want %v", what, got, want)
	}
}

// same is a message that may be, told from others by a number.
func same(n int) api.Msg {
	return api.Msg{Kind: api.MSame, From: n % 7, To: 7, Vol: n % 3, Seen: api.Vector{n}}
}

// part is a message with all that one may have.
func part(n int) api.Msg {
	return api.Msg{
		Kind: api.MPart, From: 1, Vol: 2, Base: api.Mark{Boot: 1, N: 1}, Mark: api.Mark{Boot: 1, N: 2},
		Index: n, Total: 4096, Seen: api.Vector{1, 2, 3}, Data: "data " + strconv.Itoa(n),
	}
}

// wrong are messages that may not be.
func wrong() []api.Msg {
	l := []api.Msg{{}, {Kind: 5, To: 1}, {Kind: api.MSame}, {Kind: api.MSame, To: 8}, {Kind: api.MSame, To: 1, Vol: 3}, {Kind: api.MGone, To: 1}}
	a, b := same(1), part(1)
	a.Data = "not bare"
	b.Data = ""
	return append(l, a, b)
}

// is tells whether a net has just those on their way, and such counts.
func is(t *testing.T, n *net.Net, sent, lost int, l ...api.Msg) {
	t.Helper()
	if on, s, g := n.Count(); on != len(l) || s != sent || g != lost {
		t.Errorf("Count: %d, %d, %d, want %d, %d, %d", on, s, g, len(l), sent, lost)
	}
	for k, m := range l {
		if got, err := n.Peek(k); got != m || err != api.OK {
			t.Errorf("Peek(%d): %v, %v, want %v", k, got, err, m)
		}
	}
	for _, k := range []int{math.MinInt, -1, len(l), len(l) + 1, math.MaxInt} {
		none(t, n, k, api.ENOENT)
	}
}

// none tells that nothing is in a place, by all that say so.
func none(t *testing.T, n *net.Net, k int, e api.Errno) {
	t.Helper()
	if m, err := n.Peek(k); m != (api.Msg{}) || err != e {
		t.Errorf("Peek(%d): %v, %v, want %v", k, m, err, e)
	}
	if m, err := n.Take(k); m != (api.Msg{}) || err != e {
		t.Errorf("Take(%d): %v, %v, want %v", k, m, err, e)
	}
	want(t, "Lose", n.Lose(k), e)
	want(t, "Double", n.Double(k), e)
}

func take(t *testing.T, n *net.Net, k int, m api.Msg) {
	t.Helper()
	if got, err := n.Take(k); got != m || err != api.OK {
		t.Errorf("Take(%d): %v, %v, want %v", k, got, err, m)
	}
}

// filled is a net on which so many are, and they.
func filled(t *testing.T, many int) (*net.Net, []api.Msg) {
	t.Helper()
	n := net.New()
	var l []api.Msg
	for i := range many {
		want(t, "Send", n.Send(same(i)), api.OK)
		l = append(l, same(i))
	}
	return n, l
}

// P19.1: the document's example
func TestExample(t *testing.T) {
	n, l := filled(t, 2)
	take(t, n, 1, l[1])
	want(t, "Double", n.Double(0), api.OK)
	want(t, "Lose", n.Lose(0), api.OK)
	is(t, n, 2, 1, l[0])
}

// P19.1
func TestSend(t *testing.T) {
	n := net.New()
	is(t, n, 0, 0)
	for i, m := range wrong() {
		want(t, "Send of what may not be, "+strconv.Itoa(i), n.Send(m), api.EFORM)
	}
	is(t, n, 0, 0) // it was not sent
	want(t, "Send", n.Send(same(1)), api.OK)
	is(t, n, 1, 0, same(1))
	want(t, "Send", n.Send(part(2)), api.OK)
	want(t, "Send of the same", n.Send(same(1)), api.OK)
	want(t, "Send", n.Send(wrong()[0]), api.EFORM)
	want(t, "Send", n.Send(same(3)), api.OK)
	is(t, n, 4, 0, same(1), part(2), same(1), same(3))
}

// P19.1: 160 are on their way, no more
func TestFull(t *testing.T) {
	n, l := filled(t, 159)
	is(t, n, 159, 0, l...)
	want(t, "the 160th", n.Send(part(0)), api.OK)
	l = append(l, part(0))
	is(t, n, 160, 0, l...)
	for i := range 3 {
		want(t, "one more", n.Send(part(1)), api.ENOSPC)
		is(t, n, 161+i, 1+i, l...)
	}
	want(t, "one that may not be", n.Send(wrong()[0]), api.EFORM)
	for _, k := range []int{0, 80, 159} {
		want(t, "Double", n.Double(k), api.ENOSPC)
	}
	want(t, "Double of none", n.Double(160), api.ENOENT)
	want(t, "Double of none", n.Double(-1), api.ENOENT)
	is(t, n, 163, 3, l...)
	// There is room behind each that goes.
	take(t, n, 0, l[0])
	l = l[1:]
	want(t, "Double", n.Double(158), api.OK)
	l = append(l, part(0))
	is(t, n, 163, 3, l...)
	want(t, "Lose", n.Lose(159), api.OK)
	l = l[:159]
	want(t, "Send", n.Send(part(2)), api.OK)
	l = append(l, part(2))
	want(t, "Send", n.Send(part(3)), api.ENOSPC)
	is(t, n, 165, 5, l...)
}

// P19.1: a net may be filled by doubles, too
func TestFullOfDoubles(t *testing.T) {
	n, l := filled(t, 1)
	for range 159 {
		want(t, "Double", n.Double(0), api.OK)
		l = append(l, l[0])
	}
	want(t, "Double", n.Double(0), api.ENOSPC)
	is(t, n, 1, 0, l...)
	want(t, "Send", n.Send(same(9)), api.ENOSPC)
	is(t, n, 2, 1, l...)
}

// P19.1: which one goes, and in which order the others stay
func TestPlaces(t *testing.T) {
	for k := range 7 {
		n, l := filled(t, 7)
		take(t, n, k, l[k])
		is(t, n, 7, 0, slices.Delete(slices.Clone(l), k, k+1)...)

		n, l = filled(t, 7)
		want(t, "Lose", n.Lose(k), api.OK)
		is(t, n, 7, 1, slices.Delete(slices.Clone(l), k, k+1)...)

		n, l = filled(t, 7)
		want(t, "Double", n.Double(k), api.OK)
		is(t, n, 7, 0, append(l, l[k])...)
	}
}

// P19.1: a clone knows nothing of what becomes of the other one
func TestClone(t *testing.T) {
	n, l := filled(t, 5)
	want(t, "Lose", n.Lose(4), api.OK)
	l = l[:4]
	c := n.Clone()
	is(t, c, 5, 1, l...)
	for _, pair := range [][2]*net.Net{{n, c}, {n.Clone(), n.Clone()}, {c, n}, {n.Clone().Clone(), n}} {
		a, b := pair[0].Clone(), pair[1].Clone()
		take(t, a, 0, l[0])
		want(t, "Send", a.Send(part(1)), api.OK)
		is(t, b, 5, 1, l...)
		want(t, "Lose", b.Lose(3), api.OK)
		want(t, "Send", b.Send(part(2)), api.OK)
		want(t, "Double", b.Double(0), api.OK)
		is(t, a, 6, 1, l[1], l[2], l[3], part(1))
		is(t, b, 6, 2, l[0], l[1], l[2], part(2), l[0])
	}
	is(t, n, 5, 1, l...)
	is(t, c, 5, 1, l...)
	take(t, n, 0, l[0])
	is(t, c, 5, 1, l...)
	want(t, "Send", c.Send(part(3)), api.OK)
	want(t, "Send", n.Send(part(4)), api.OK)
	is(t, c, 6, 1, append(slices.Clone(l), part(3))...)
	is(t, n, 6, 1, l[1], l[2], l[3], part(4))
	empty := net.New().Clone()
	is(t, empty, 0, 0)
	want(t, "Send", empty.Send(part(1)), api.OK)
	is(t, empty, 1, 0, part(1))
	is(t, net.New(), 0, 0)
}

// P19.1: of a Net that New did not make
func TestNil(t *testing.T) {
	for _, n := range []*net.Net{nil, {}} {
		want(t, "Send", n.Send(same(1)), api.ENIL)
		want(t, "Send of what may not be", n.Send(api.Msg{}), api.ENIL)
		for _, k := range []int{math.MinInt, -1, 0, 1, math.MaxInt} {
			none(t, n, k, api.ENIL)
		}
		if on, sent, lost := n.Count(); on != 0 || sent != 0 || lost != 0 {
			t.Errorf("Count: %d, %d, %d", on, sent, lost)
		}
		if c := n.Clone(); c != nil {
			t.Errorf("Clone: %v", c)
		}
	}
}

// plain is a net in the plainest way, and of each message how often it was sent, doubled, taken and lost.
type plain struct {
	way                         []api.Msg
	sent, lost                  int
	came, twice, taken, dropped map[api.Msg]int
}

// step does anything to a net, and the same to what it should be.
func (p *plain) step(t *testing.T, r *rand.Rand, n *net.Net) {
	t.Helper()
	k := r.Intn(len(p.way)+2) - 1
	is := k >= 0 && k < len(p.way)
	e := api.ENOENT
	if is {
		e = api.OK
	}
	switch r.Intn(6) {
	case 0, 1:
		m := []api.Msg{same(r.Intn(20)), part(r.Intn(20))}[r.Intn(2)]
		p.sent++
		p.came[m]++
		if len(p.way) == 160 {
			p.lost++
			p.dropped[m]++
			want(t, "Send", n.Send(m), api.ENOSPC)
			return
		}
		want(t, "Send", n.Send(m), api.OK)
		p.way = append(p.way, m)
	case 2:
		if is && len(p.way) == 160 {
			e = api.ENOSPC
		}
		want(t, "Double", n.Double(k), e)
		if e == api.OK {
			p.twice[p.way[k]]++
			p.way = append(p.way, p.way[k])
		}
	case 3:
		want(t, "Lose", n.Lose(k), e)
		if is {
			p.lost++
			p.dropped[p.way[k]]++
			p.way = slices.Delete(p.way, k, k+1)
		}
	case 4:
		m, err := n.Take(k)
		want(t, "Take", err, e)
		if !is {
			return
		}
		if m != p.way[k] || p.came[m] == 0 {
			t.Errorf("Take(%d): %v, want %v", k, m, p.way[k])
		}
		p.taken[m]++
		p.way = slices.Delete(p.way, k, k+1)
	case 5:
		want(t, "Send", n.Send(wrong()[r.Intn(len(wrong()))]), api.EFORM)
	}
}

// P19.2, P19.3: whatever is done, what was taken was sent, and what was sent, or doubled, is on its way unless it was taken or lost
func TestAny(t *testing.T) {
	for seed := range 20 {
		r := rand.New(rand.NewSource(int64(seed)))
		n := net.New()
		p := &plain{came: map[api.Msg]int{}, twice: map[api.Msg]int{}, taken: map[api.Msg]int{}, dropped: map[api.Msg]int{}}
		if seed%2 == 0 {
			for range 158 {
				m := same(r.Intn(20))
				want(t, "Send", n.Send(m), api.OK)
				p.way = append(p.way, m)
				p.came[m]++
				p.sent++
			}
		}
		for range 500 {
			p.step(t, r, n)
			is(t, n, p.sent, p.lost, p.way...)
			if r.Intn(20) == 0 {
				n = n.Clone()
			}
		}
		there := map[api.Msg]int{}
		for on, _, _ := n.Count(); on > 0; on-- {
			m, _ := n.Take(0)
			there[m]++
		}
		for m, came := range p.came {
			if came+p.twice[m] != p.taken[m]+p.dropped[m]+there[m] {
				t.Errorf("%v: sent %d, doubled %d, taken %d, lost %d, on their way %d", m, came, p.twice[m], p.taken[m], p.dropped[m], there[m])
			}
			delete(there, m)
		}
		if len(there) > 0 {
			t.Errorf("never sent: %v", there)
		}
	}
}
