package tree_test

import (
	"maps"
	"math"
	"math/rand"
	"slices"
	"strconv"
	"strings"
	"testing"

	"crannog/api"
	"crannog/store"
	"crannog/tree"
)

// version is a tree, and what it should have.
type version struct {
	root int
	vals map[string]string
}

func (v version) entries() []api.Entry {
	var l []api.Entry
	for _, k := range slices.Sorted(maps.Keys(v.vals)) {
		l = append(l, api.Entry{Key: k, Val: v.vals[k]})
	}
	return l
}

// low is how many levels a tree of so many entries may have.
func low(n int) int {
	for k, most := 1, 8; ; k, most = k+1, 4*most {
		if n < most {
			return k
		}
	}
}

// changed is what a change made of a version; it tells what blocks came of it.
func (v version) changed(t *testing.T, s *store.Store, key, val string, gone bool) version {
	t.Helper()
	levels, _ := tree.Height(s, v.root)
	live := s.Live()
	next := version{vals: maps.Clone(v.vals)}
	if gone {
		next.root = del(t, s, v.root, key)
		delete(next.vals, key)
	} else {
		next.root = put(t, s, v.root, key, val)
		next.vals[key] = val
	}
	if _, ok := v.vals[key]; gone && !ok {
		if next.root != v.root || len(s.Live()) != len(live) {
			t.Errorf("Del of what is not there: %d, was %d", next.root, v.root)
		}
		return next
	}
	if n := len(s.Live()) - len(live); n > tree.Cost(levels) {
		t.Errorf("%d new blocks, %d levels", n, levels)
	}
	for _, id := range s.Live() {
		named, held, _ := s.Refs(id)
		if loose := named == 0 && held == 0; loose != (id == next.root && !slices.Contains(live, id)) {
			t.Errorf("block %d: named %d, held %d; the root is %d", id, named, held, next.root)
		}
	}
	return next
}

// same tells that a version is as it should be.
func (v version) same(t *testing.T, s *store.Store) {
	t.Helper()
	l := v.entries()
	has(t, s, v.root, l)
	n, err := tree.Height(s, v.root)
	if err != api.OK || n > low(len(l)) || (n == 0) != (len(l) == 0) {
		t.Errorf("Height: %d, %v, of %d", n, err, len(l))
	}
}

// P7.2 to P7.6: any changes of any versions, held against maps
func TestAnyChanges(t *testing.T) {
	for seed := range 40 {
		r := rand.New(rand.NewSource(int64(seed)))
		_, s := made(t, 3000)
		keys := 3 + r.Intn(150)
		versions := []version{{vals: map[string]string{}}}
		for i := range 250 {
			v := versions[len(versions)-1]
			if r.Intn(20) == 0 {
				v = versions[r.Intn(len(versions))]
			}
			key := strconv.Itoa(r.Intn(keys))
			val := strings.Repeat("v", r.Intn(3))
			gone := r.Intn(100) < 20+60*(i/60%2) // grows, shrinks, grows
			next := v.changed(t, s, key, val, gone)
			if next.root != 0 {
				want(t, "Hold", s.Hold(next.root), api.OK)
			}
			next.same(t, s)
			if got, ok, err := tree.Get(s, next.root, key); got != next.vals[key] || ok == gone || err != api.OK {
				t.Errorf("Get(%q): %q, %v, %v", key, got, ok, err)
			}
			versions = append(versions, next)
			if len(versions) > 8 {
				j := r.Intn(len(versions) - 1)
				versions[j].same(t, s)
				swap(t, s, versions[j].root, 0)
				versions = slices.Delete(versions, j, j+1)
			}
			if t.Failed() {
				t.Fatalf("seed %d, step %d", seed, i)
			}
		}
		for _, v := range versions {
			v.same(t, s)
			swap(t, s, v.root, 0)
		}
		if s.Free() != 2998 {
			t.Errorf("seed %d: free: %d", seed, s.Free())
		}
	}
}

// P7.3, P7.6: many entries, in and out in rows
func TestMany(t *testing.T) {
	keys := numbered(700)
	back := slices.Clone(keys)
	slices.Reverse(back)
	any := slices.Clone(keys)
	rand.New(rand.NewSource(1)).Shuffle(len(any), func(i, j int) { any[i], any[j] = any[j], any[i] })
	for _, in := range [][]string{keys, back, any} {
		for _, out := range [][]string{keys, back, any} {
			_, s := made(t, 1000)
			v := version{vals: map[string]string{}}
			step := func(i int, key string, gone bool) {
				next := v.changed(t, s, key, strings.ToUpper(key), gone)
				swap(t, s, v.root, next.root)
				v = next
				if i%50 == 0 {
					v.same(t, s)
				}
			}
			for i, k := range in {
				step(i, k, false)
			}
			v.same(t, s)
			for i, k := range out {
				step(i, k, true)
			}
			if v.root != 0 || s.Free() != 998 {
				t.Errorf("left: %d, free: %d", v.root, s.Free())
			}
		}
	}
}

// P7.1, P7.3: parts of a tree of several levels
func TestAnyRange(t *testing.T) {
	r := rand.New(rand.NewSource(7))
	_, s := made(t, 1000)
	keys := numbered(400)
	root := grown(t, s, keys...)
	if n, err := tree.Height(s, root); n < 4 || err != api.OK {
		t.Fatalf("Height: %d, %v", n, err)
	}
	bound := func() string {
		switch k := keys[r.Intn(len(keys))]; r.Intn(4) {
		case 0:
			return k + "\x00"
		case 1:
			return k[:r.Intn(5)]
		default:
			return k
		}
	}
	for range 1000 {
		from, to, most := bound(), bound(), r.Intn(100)
		if r.Intn(3) == 0 {
			most = math.MaxInt
		}
		var in []string
		for _, k := range keys {
			if k >= from && (to == "" || k < to) && len(in) < most {
				in = append(in, k)
			}
		}
		if l, err := tree.Range(s, root, from, to, most); !slices.Equal(l, entries(in...)) || err != api.OK {
			t.Fatalf("Range(%q, %q, %d): %v, %v, want %v", from, to, most, l, err, in)
		}
	}
}
