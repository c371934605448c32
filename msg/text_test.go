package msg_test

import (
	"math"
	"strings"
	"testing"

	"crannog/api"
	"crannog/msg"
)

// P18.3
func TestSeen(t *testing.T) {
	for _, c := range []struct {
		v    api.Vector
		want string
	}{
		{api.Vector{}, ""},
		{api.Vector{3, 0, 5}, "3,0,5"},
		{api.Vector{1}, "1"},
		{api.Vector{0, 1}, "0,1"},
		{api.Vector{0, 0, 0, 0, 0, 0, 0, 7}, "0,0,0,0,0,0,0,7"},
		{api.Vector{0, 0, 0, 0, 0, 0, 6}, "0,0,0,0,0,0,6"},
		{api.Vector{10, 200, 3000, 40000, 5, 6, 7, 8}, "10,200,3000,40000,5,6,7,8"},
		{api.Vector{most, 0, most}, "1099511627776,0,1099511627776"},
		// Numbers that may not be are numbers.
		{api.Vector{-1, 0, math.MinInt}, "-1,0,-9223372036854775808"},
		{api.Vector{0, math.MaxInt}, "0,9223372036854775807"},
	} {
		if got := msg.Seen(c.v); got != c.want {
			t.Errorf("Seen(%v): %q, want %q", c.v, got, c.want)
		}
	}
}

// P18.3
func TestText(t *testing.T) {
	for _, c := range []struct {
		m    api.Msg
		want string
	}{
		{api.Msg{Kind: api.MSame, To: 1, Vol: 2, Seen: api.Vector{3, 0, 5}}, "same 0>1 v2 seen=3,0,5"},
		{api.Msg{Kind: api.MSame, From: 7, To: 6}, "same 7>6 v0 seen="},
		{api.Msg{Kind: api.MAsk, From: 1, Vol: 1}, "ask 1>0 v1 seen= base=0.0 mark=0.0 from=0"},
		{api.Msg{Kind: api.MAsk, From: 1, Base: mark(1, 2)}, "ask 1>0 v0 seen= base=1.2 mark=0.0 from=0"},
		{api.Msg{Kind: api.MAsk, From: 1, Seen: api.Vector{1}, Base: mark(1, 2), Mark: mark(3, 40), Index: 512}, "ask 1>0 v0 seen=1 base=1.2 mark=3.40 from=512"},
		{api.Msg{Kind: api.MPart, From: 3, Base: mark(1, 2), Mark: mark(1, 3), Index: 1, Total: 2, Data: "abc"}, "part 3>0 v0 seen= base=1.2 mark=1.3 part=1/2 bytes=3"},
		{api.Msg{Kind: api.MPart, To: 3, Mark: mark(most, most), Total: 4096, Data: strings.Repeat("x", 512)}, "part 0>3 v0 seen= base=0.0 mark=1099511627776.1099511627776 part=0/4096 bytes=512"},
		{api.Msg{Kind: api.MPart}, "part 0>0 v0 seen= base=0.0 mark=0.0 part=0/0 bytes=0"},
		{api.Msg{Kind: api.MGone, From: 2, To: 4, Vol: 2, Seen: api.Vector{0, 1}, Mark: mark(6, 5)}, "gone 2>4 v2 seen=0,1 mark=6.5"},
		{api.Msg{}, "none 0>0 v0 seen="},
		// What a kind does not have is not told; what may not be is.
		{full(api.MAsk), "ask 3>5 v1 seen=1,2,3,4,5,6,7,8 base=4.9 mark=5.1 from=7"},
		{full(api.MPart), "part 3>5 v1 seen=1,2,3,4,5,6,7,8 base=4.9 mark=5.1 part=7/8 bytes=4"},
		{full(api.MSame), "same 3>5 v1 seen=1,2,3,4,5,6,7,8"},
		{full(api.MGone), "gone 3>5 v1 seen=1,2,3,4,5,6,7,8 mark=5.1"},
		{full(0), "none 3>5 v1 seen=1,2,3,4,5,6,7,8"},
		{full(5), "none 3>5 v1 seen=1,2,3,4,5,6,7,8"},
		{full(-1), "none 3>5 v1 seen=1,2,3,4,5,6,7,8"},
		{full(257), "none 3>5 v1 seen=1,2,3,4,5,6,7,8"},
		{full(math.MinInt), "none 3>5 v1 seen=1,2,3,4,5,6,7,8"},
		{full(math.MaxInt), "none 3>5 v1 seen=1,2,3,4,5,6,7,8"},
		{api.Msg{Kind: api.MAsk, From: -1, To: 9, Vol: -300, Base: mark(-1, 0), Index: -5}, "ask -1>9 v-300 seen= base=-1.0 mark=0.0 from=-5"},
		{api.Msg{Kind: api.MPart, From: math.MinInt, To: math.MaxInt, Index: -1, Total: -2}, "part -9223372036854775808>9223372036854775807 v0 seen= base=0.0 mark=0.0 part=-1/-2 bytes=0"},
	} {
		if got := msg.Text(c.m); got != c.want {
			t.Errorf("Text: %q, want %q", got, c.want)
		}
	}
}
