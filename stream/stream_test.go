package stream_test

import (
	"math"
	"math/rand"
	"slices"
	"strconv"
	"strings"
	"testing"

	"crannog/api"
	"crannog/diff"
	"crannog/stream"
)

func want(t *testing.T, what string, got, want api.Errno) {
	t.Helper()
	if got != want {
		t.Errorf("%s: %v, want %v", what, got, want)
	}
}

func set(key, val string) api.Change { return api.Change{Key: key, Val: val} }

func gone(key string) api.Change { return api.Change{Key: key, Gone: true} }

// stage is one of so many parts.
func stage(t *testing.T, total int) *stream.Stage {
	t.Helper()
	s, err := stream.New(total)
	if s == nil || err != api.OK {
		t.Fatalf("New(%d): %v, %v", total, s, err)
	}
	return s
}

// add tells what comes of a part.
func add(t *testing.T, s *stream.Stage, i int, part string, ok bool, err api.Errno) {
	t.Helper()
	if got, e := s.Add(i, part); got != ok || e != err {
		t.Errorf("Add(%d, %d bytes): %v, %v, want %v, %v", i, len(part), got, e, ok, err)
	}
}

// tells is the changes of a stage.
func tells(t *testing.T, s *stream.Stage, l []api.Change, err api.Errno) {
	t.Helper()
	if got, e := s.Changes(); !slices.Equal(got, l) || e != err {
		t.Errorf("Changes: %d, %v, want %d, %v", len(got), e, len(l), err)
	}
}

// state tells whether a stage has just so many parts, and what it misses.
func state(t *testing.T, s *stream.Stage, many, total, missing int) {
	t.Helper()
	if m, n := s.Has(); m != many || n != total {
		t.Errorf("Has: %d, %d, want %d, %d", m, n, many, total)
	}
	if got := s.Missing(); got != missing {
		t.Errorf("Missing: %d, want %d", got, missing)
	}
}

// full is a part of so many bytes, all alike.
func full(n int, sign string) string { return strings.Repeat(sign, n) }

// anyChanges is changes that are Sorted, of many lengths.
func anyChanges(r *rand.Rand, most int) []api.Change {
	var l []api.Change
	for i := range r.Intn(most + 1) {
		c := set("k"+strconv.Itoa(100000+i)+full(r.Intn(api.MaxKey-6), "x"), full(r.Intn(api.MaxVal+1), string([]byte{byte(r.Intn(256))})))
		if r.Intn(4) == 0 {
			c.Val, c.Gone = "", true
		}
		l = append(l, c)
	}
	return l
}

// P17.1: what is cut is the bytes, to the last one
func TestCut(t *testing.T) {
	// Of no change 4 bytes; of one with so long a value so many bytes, whether that value may be or not.
	one := func(n int) []api.Change { return []api.Change{set("k", full(n-10, "v"))} }
	two := func(n int) []api.Change { return []api.Change{set("a", full(300, "v")), set("b", full(n-316, "w"))} }
	for _, c := range []struct {
		l     []api.Change
		sizes []int
	}{
		{nil, []int{4}},
		{[]api.Change{}, []int{4}},
		{[]api.Change{gone("a")}, []int{10}},
		{one(11), []int{11}},
		{two(511), []int{511}},
		{two(512), []int{512}},
		{two(513), []int{512, 1}},
		{one(511), []int{511}},
		{one(512), []int{512}},
		{one(513), []int{512, 1}},
		{one(1023), []int{512, 511}},
		{one(1024), []int{512, 512}},
		{one(1025), []int{512, 512, 1}},
		{one(2048), []int{512, 512, 512, 512}},
		{one(2600), []int{512, 512, 512, 512, 512, 40}},
		// Changes that stand in no order, and can't be.
		{[]api.Change{set("b", "1"), set("a", "2"), {Val: "x", Gone: true}}, []int{4 + 7 + 7 + 6}},
	} {
		parts := stream.Cut(c.l)
		var sizes []int
		for _, p := range parts {
			sizes = append(sizes, len(p))
		}
		if !slices.Equal(sizes, c.sizes) {
			t.Errorf("Cut: %v, want %v", sizes, c.sizes)
		}
		if strings.Join(parts, "") != diff.Put(c.l) {
			t.Errorf("Cut of %v: other bytes", c.sizes)
		}
	}
	if l := stream.Cut([]api.Change{set("ab", "c"), gone("d")}); !slices.Equal(l, []string{"\x00\x00\x00\x02\x00\x00\x02ab\x00\x01c\x01\x00\x01d\x00\x00"}) {
		t.Errorf("Cut: %q", l)
	}
}

// P17.1: beyond what one stage takes, too
func TestCutMany(t *testing.T) {
	l := slices.Repeat([]api.Change{set("k", full(60000, "v"))}, 50)
	parts := stream.Cut(l)
	if len(parts) != (4+50*60006+511)/512 || strings.Join(parts, "") != diff.Put(l) {
		t.Errorf("Cut: %d parts", len(parts))
	}
}

// P17.1: what is handed in stays as it is
func TestCutKeeps(t *testing.T) {
	room := []api.Change{set("a", "1"), gone("b"), set("c", "behind")}
	was := slices.Clone(room)
	one, two := stream.Cut(room[:2]), stream.Cut(room[:2])
	if !slices.Equal(room, was) {
		t.Errorf("Cut changed %v", room)
	}
	one[0] = ""
	if two[0] != diff.Put(was[:2]) {
		t.Error("two answers share their memory")
	}
}

// windowed is Window in the words of the document.
func windowed(from, total int) []int {
	var l []int
	if from < 0 || from >= total {
		return l
	}
	next := from + 1
	for next%4 != 0 {
		next++
	}
	for i := from; i < next && i < total; i++ {
		l = append(l, i)
	}
	return l
}

// P17.1
func TestWindow(t *testing.T) {
	for _, c := range []struct {
		from, total int
		l           []int
	}{
		{0, 9, []int{0, 1, 2, 3}},
		{5, 9, []int{5, 6, 7}},
		{1, 9, []int{1, 2, 3}},
		{3, 9, []int{3}},
		{4, 9, []int{4, 5, 6, 7}},
		{8, 9, []int{8}},
		{9, 9, nil},
		{10, 9, nil},
		{0, 1, []int{0}},
		{0, 3, []int{0, 1, 2}},
		{0, 4, []int{0, 1, 2, 3}},
		{0, 0, nil},
		{-1, 9, nil},
		{-4, 9, nil},
		{-4, -1, nil},
		{0, -1, nil},
		{4095, 4096, []int{4095}},
		{4092, 4096, []int{4092, 4093, 4094, 4095}},
		{4096, 4097, []int{4096}}, // whatever a stage takes
		{math.MinInt, math.MaxInt, nil},
		{math.MaxInt, math.MaxInt, nil},
		{math.MaxInt - 1, math.MaxInt, []int{math.MaxInt - 1}},
		{math.MaxInt - 3, math.MaxInt, []int{math.MaxInt - 3, math.MaxInt - 2, math.MaxInt - 1}},
		{math.MaxInt - 5, math.MaxInt, []int{math.MaxInt - 5, math.MaxInt - 4}},
		{0, math.MaxInt, []int{0, 1, 2, 3}},
		{5, math.MinInt, nil},
	} {
		if l := stream.Window(c.from, c.total); !slices.Equal(l, c.l) {
			t.Errorf("Window(%d, %d): %v, want %v", c.from, c.total, l, c.l)
		}
	}
	for from := -9; from < 40; from++ {
		for total := -9; total < 40; total++ {
			if l := stream.Window(from, total); !slices.Equal(l, windowed(from, total)) {
				t.Errorf("Window(%d, %d): %v", from, total, l)
			}
		}
	}
	one := stream.Window(0, 4)
	clear(one[:cap(one)])
	if l := stream.Window(0, 4); !slices.Equal(l, []int{0, 1, 2, 3}) {
		t.Errorf("Window: %v", l)
	}
}

// P17.4
func TestWindowsAreAll(t *testing.T) {
	for _, total := range []int{1, 2, 3, 4, 5, 6, 7, 8, 9, 31, 100, 4093, 4094, 4095, 4096} {
		var all []int
		for from := 0; ; {
			l := stream.Window(from, total)
			if len(l) == 0 {
				break
			}
			all = append(all, l...)
			from = l[len(l)-1] + 1
		}
		if len(all) != total {
			t.Errorf("windows of %d: %d parts", total, len(all))
		}
		for i, k := range all {
			if i != k {
				t.Fatalf("windows of %d: the %dth is %d", total, i, k)
			}
		}
	}
}

// P17.2
func TestNew(t *testing.T) {
	for _, n := range []int{math.MinInt, -1, 0, 4097, 1 << 20, math.MaxInt} {
		if s, err := stream.New(n); s != nil || err != api.EINVAL {
			t.Errorf("New(%d): %v, %v", n, s, err)
		}
	}
	for _, n := range []int{1, 2, 3, 4, 5, 100, 4095, 4096} {
		s := stage(t, n)
		state(t, s, 0, n, 0)
		tells(t, s, nil, api.ENODATA)
		for _, i := range []int{-1, 0, n - 1, n} {
			if s.Whole(i) {
				t.Errorf("New(%d): %d is whole", n, i)
			}
		}
	}
}

// P17.2: which parts may come
func TestAddWrong(t *testing.T) {
	for _, total := range []int{1, 2, 5, 4096} {
		s := stage(t, total)
		for _, i := range []int{math.MinInt, -4, -1, total, total + 1, 4097, math.MaxInt} {
			for _, n := range []int{0, 1, 511, 512, 513} {
				add(t, s, i, full(n, "x"), false, api.EINVAL)
			}
		}
		for i := range min(total, 9) {
			add(t, s, i, "", false, api.EINVAL)
			add(t, s, i, full(513, "x"), false, api.EINVAL)
			add(t, s, i, full(1<<20, "x"), false, api.EINVAL)
			if i != total-1 {
				add(t, s, i, "x", false, api.EINVAL)
				add(t, s, i, full(511, "x"), false, api.EINVAL)
			}
		}
		state(t, s, 0, total, 0)
		tells(t, s, nil, api.ENODATA)
		if total > 1 {
			add(t, s, 0, full(512, "x"), true, api.OK)
			add(t, s, total-2, full(511, "x"), false, api.EINVAL)
		}
		missing := 0
		if total == 1 {
			missing = 1
		}
		for _, n := range []int{1, 2, 511, 512} {
			s := stage(t, total)
			add(t, s, total-1, full(n, "x"), true, api.OK)
			state(t, s, 1, total, missing)
		}
	}
}

// P17.2: a part that comes again
func TestAddAgain(t *testing.T) {
	l := []api.Change{set("a", full(300, "v")), set("b", full(290, "w"))}
	parts := stream.Cut(l)
	s := stage(t, len(parts))
	other := full(511, "\x00")
	add(t, s, 0, parts[0], true, api.OK)
	add(t, s, 0, parts[0], false, api.OK)
	add(t, s, 0, other+"\x00", false, api.EEXIST)
	add(t, s, 0, parts[0][:511]+"\xff", false, api.EEXIST)
	add(t, s, 0, "\xff"+parts[0][1:], false, api.EEXIST)
	add(t, s, 0, other, false, api.EINVAL) // ahead of that it is another one
	add(t, s, 0, "", false, api.EINVAL)
	state(t, s, 1, 2, 1)
	add(t, s, 1, parts[1], true, api.OK)
	add(t, s, 1, parts[1]+"x", false, api.EEXIST)
	add(t, s, 1, parts[1][1:], false, api.EEXIST)
	add(t, s, 1, parts[1][:1], false, api.EEXIST)
	add(t, s, 1, "", false, api.EINVAL)
	add(t, s, 1, full(513, "x"), false, api.EINVAL)
	for i, p := range parts {
		add(t, s, i, strings.Clone(p), false, api.OK)
	}
	// What came first stays.
	state(t, s, 2, 2, 2)
	tells(t, s, l, api.OK)
}

// P17.2: Missing, Whole and Has, whatever has come
func TestCome(t *testing.T) {
	r := rand.New(rand.NewSource(17))
	for range 300 {
		total := 1 + r.Intn(22)
		s := stage(t, total)
		came := map[int]bool{}
		for _, i := range r.Perm(total) {
			n := 512
			if i == total-1 {
				n = 1 + r.Intn(512)
			}
			add(t, s, i, full(n, "x"), true, api.OK)
			came[i] = true
			missing := 0
			for came[missing] {
				missing++
			}
			state(t, s, len(came), total, missing)
			for k := -9; k < total+9; k++ {
				whole := k >= 0 && k < total
				for j := k / 4 * 4; j < k/4*4+4 && j < total; j++ {
					whole = whole && came[j]
				}
				if s.Whole(k) != whole {
					t.Errorf("Whole(%d) of %d, have come %v: want %v", k, total, came, whole)
				}
			}
			if len(came) < total {
				tells(t, s, nil, api.ENODATA)
			}
		}
		for _, k := range []int{math.MinInt, math.MinInt + 3, math.MaxInt, math.MaxInt - 3} {
			if s.Whole(k) {
				t.Errorf("Whole(%d)", k)
			}
		}
	}
}

// P17.2: Changes, and its errors
func TestChanges(t *testing.T) {
	cut := func(b string) []string {
		var parts []string
		for ; len(b) > 512; b = b[512:] {
			parts = append(parts, b[:512])
		}
		return append(parts, b)
	}
	many := anyChanges(rand.New(rand.NewSource(2)), 60)
	good := diff.Put(many)
	for _, c := range []struct {
		what  string
		bytes string
		l     []api.Change
		err   api.Errno
	}{
		{"none", diff.Put(nil), nil, api.OK},
		{"one", diff.Put([]api.Change{gone("a")}), []api.Change{gone("a")}, api.OK},
		{"many", good, many, api.OK},
		{"no bytes of changes", "x", nil, api.EFORM},
		{"a byte behind", good + "x", nil, api.EFORM},
		{"a byte less", good[:len(good)-1], nil, api.EFORM},
		{"no rising keys", diff.Put([]api.Change{set("b", ""), set("a", "")}), nil, api.EFORM},
		{"too long a value", diff.Put([]api.Change{set("b", full(301, "x"))}), nil, api.EFORM},
		{"many, then none", good + full(2000, "\x00"), nil, api.EFORM},
		{"noughts", full(1024, "\x00"), nil, api.EFORM},
	} {
		parts := cut(c.bytes)
		for skip := range parts {
			s := stage(t, len(parts))
			for i, p := range parts {
				if i != skip {
					add(t, s, i, p, true, api.OK)
				}
			}
			tells(t, s, nil, api.ENODATA) // ahead of what they tell
			add(t, s, skip, parts[skip], true, api.OK)
			got, err := s.Changes()
			if !slices.Equal(got, c.l) || err != c.err {
				t.Errorf("%s: %d changes, %v, want %v", c.what, len(got), err, c.err)
			}
			// An answer is new memory, and asking changes nothing.
			clear(got[:cap(got)])
			tells(t, s, c.l, c.err)
			state(t, s, len(parts), len(parts), len(parts))
		}
	}
}

// P17.2: as many parts as there may be, and one more
func TestMost(t *testing.T) {
	var l []api.Change
	for i := range 6700 {
		l = append(l, set("k"+strconv.Itoa(1000000+i), full(300, "v")))
	}
	last := len(l)
	l = append(l, set("k2000000", full(35, "v")))
	parts := stream.Cut(l)
	if len(parts) != 4096 || len(parts[4095]) != 512 {
		t.Fatalf("Cut: %d parts, the last one of %d bytes", len(parts), len(parts[len(parts)-1]))
	}
	s := stage(t, len(parts))
	for i, p := range slices.Backward(parts) {
		add(t, s, i, p, true, api.OK)
	}
	state(t, s, 4096, 4096, 4096)
	tells(t, s, l, api.OK)
	l[last].Val += "v"
	if _, err := stream.New(len(stream.Cut(l))); err != api.EINVAL {
		t.Errorf("New of more parts than may be: %v", err)
	}
}

// P17.2: two stages know nothing of one another
func TestTwo(t *testing.T) {
	a, b := stage(t, 2), stage(t, 2)
	add(t, a, 0, full(512, "a"), true, api.OK)
	state(t, b, 0, 2, 0)
	add(t, b, 0, full(512, "b"), true, api.OK)
	add(t, b, 1, "b", true, api.OK)
	state(t, a, 1, 2, 1)
}

// P17.2: of a Stage that no call made
func TestNil(t *testing.T) {
	for _, s := range []*stream.Stage{nil, {}} {
		add(t, s, 0, "x", false, api.ENIL)
		add(t, s, 0, full(512, "x"), false, api.ENIL)
		add(t, s, -1, "", false, api.ENIL)
		state(t, s, 0, 0, 0)
		tells(t, s, nil, api.ENIL)
		for _, i := range []int{math.MinInt, -1, 0, 1, math.MaxInt} {
			if s.Whole(i) {
				t.Errorf("Whole(%d)", i)
			}
		}
	}
}

// P17.3
func TestBack(t *testing.T) {
	r := rand.New(rand.NewSource(3))
	for range 300 {
		l := anyChanges(r, 40)
		if !diff.Sorted(l) {
			t.Fatal("no rising keys")
		}
		parts := stream.Cut(l)
		s := stage(t, len(parts))
		came := map[int]bool{}
		for len(came) < len(parts) {
			i := r.Intn(len(parts))
			add(t, s, i, parts[i], !came[i], api.OK)
			came[i] = true
		}
		for range 5 {
			i := r.Intn(len(parts))
			add(t, s, i, parts[i], false, api.OK)
		}
		tells(t, s, l, api.OK)
	}
}
