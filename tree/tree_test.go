package tree_test

import (
	"encoding/binary"
	"math"
	"reflect"
	"slices"
	"strconv"
	"strings"
	"testing"

	"crannog/api"
	"crannog/dev"
	"crannog/store"
	"crannog/tree"
)

// number, text, leaf and upper are the forms in a block, written once more from the document.
func number(n, width int) string {
	return string(binary.BigEndian.AppendUint64(nil, uint64(n))[8-width:])
}

func text(s string) string { return number(len(s), 2) + s }

// leaf is the bytes of one: each key has itself in capitals as its value.
func leaf(keys ...string) string {
	b := "\x00" + number(len(keys), 1)
	for _, k := range keys {
		b += text(k) + text(strings.ToUpper(k))
	}
	return b
}

// upper is the bytes of a node above the leaves.
func upper(level int, keys ...string) string {
	b := number(level, 1) + number(len(keys), 1)
	for _, k := range keys {
		b += text(k)
	}
	return b
}

func want(t *testing.T, what string, got, want api.Errno) {
	t.Helper()
	if got != want {
		t.Errorf("%s: %v, want %v", what, got, want)
	}
}

// made is a store upon a device of so many blocks.
func made(t *testing.T, n int) (*dev.Dev, *store.Store) {
	t.Helper()
	d, err := dev.New(n)
	if err != api.OK {
		t.Fatal(err)
	}
	s, err := store.Format(d, "")
	if err != api.OK {
		t.Fatal(err)
	}
	return d, s
}

// block is one of the store, made by hand.
func block(t *testing.T, s *store.Store, data string, kids ...int) int {
	t.Helper()
	id, err := s.Put(kids, data)
	if err != api.OK {
		t.Fatal(err)
	}
	return id
}

// grown is a tree of keys, each with itself in capitals as its value, held once.
func grown(t *testing.T, s *store.Store, keys ...string) int {
	t.Helper()
	root := 0
	for _, k := range keys {
		root = swap(t, s, root, put(t, s, root, k, strings.ToUpper(k)))
	}
	return root
}

// swap holds another root in place of one.
func swap(t *testing.T, s *store.Store, old, root int) int {
	t.Helper()
	if root != 0 {
		want(t, "Hold", s.Hold(root), api.OK)
	}
	if old != 0 {
		want(t, "Drop", s.Drop(old), api.OK)
	}
	return root
}

func put(t *testing.T, s *store.Store, root int, key, val string) int {
	t.Helper()
	next, err := tree.Put(s, root, key, val)
	if err != api.OK || next == 0 {
		t.Fatalf("Put(%d, %q): %d, %v", root, key, next, err)
	}
	return next
}

func del(t *testing.T, s *store.Store, root int, key string) int {
	t.Helper()
	next, err := tree.Del(s, root, key)
	if err != api.OK {
		t.Fatalf("Del(%d, %q): %v", root, key, err)
	}
	return next
}

// entries is keys with themselves in capitals as their values.
func entries(keys ...string) []api.Entry {
	var l []api.Entry
	for _, k := range keys {
		l = append(l, api.Entry{Key: k, Val: strings.ToUpper(k)})
	}
	return l
}

// has tells that a tree has just these entries, and is one.
func has(t *testing.T, s *store.Store, root int, l []api.Entry) {
	t.Helper()
	if n, err := tree.Check(s, root); n != len(l) || err != api.OK {
		t.Errorf("Check(%d): %d, %v, want %d", root, n, err, len(l))
	}
	if got, err := tree.Range(s, root, "", "", math.MaxInt); !slices.Equal(got, l) || err != api.OK {
		t.Errorf("Range(%d): %v, %v, want %v", root, got, err, l)
	}
}

// high tells how many levels a tree has.
func high(t *testing.T, s *store.Store, root, levels int) {
	t.Helper()
	if n, err := tree.Height(s, root); n != levels || err != api.OK {
		t.Errorf("Height(%d): %d, %v, want %d", root, n, err, levels)
	}
}

// letters is so many keys: a, b, c and so on.
func letters(from, n int) []string {
	var l []string
	for i := range n {
		l = append(l, string([]byte{byte('a' + from + i)}))
	}
	return l
}

// numbered is so many keys that rise.
func numbered(n int) []string {
	var l []string
	for i := range n {
		l = append(l, "k"+strconv.Itoa(1000+i))
	}
	return l
}

// sample is a tree of two levels, made by hand: b to q, without h and l; and its leaves.
func sample(t *testing.T, s *store.Store) (root int, leaves []int) {
	t.Helper()
	leaves = []int{
		block(t, s, leaf("b", "c", "d", "e", "f", "g")),
		block(t, s, leaf("i", "j", "jj", "k")),
		block(t, s, leaf("m", "n", "o", "p", "q")),
	}
	return block(t, s, upper(1, "b", "i", "m"), leaves...), leaves
}

// reads calls all that look at a tree, and tells what came of each beside its error.
func reads(s *store.Store, root int, key string) (errs []api.Errno, zero bool) {
	val, ok, e1 := tree.Get(s, root, key)
	l, e2 := tree.Range(s, root, "", "", math.MaxInt)
	levels, e3 := tree.Height(s, root)
	n, e4 := tree.Check(s, root)
	least, level, e5 := tree.Top(s, root)
	all, kids, e6 := tree.Open(s, root)
	put, e7 := tree.Put(s, root, key, "")
	del, e8 := tree.Del(s, root, key)
	zero = val == "" && !ok && l == nil && levels == 0 && n == 0 && least == "" && level == 0 && all == nil && kids == nil && put == 0 && del == 0
	return []api.Errno{e1, e2, e3, e4, e5, e6, e7, e8}, zero
}

// fails tells that all calls answer one error, and nothing else.
func fails(t *testing.T, what string, s *store.Store, root int, err api.Errno) {
	t.Helper()
	for _, key := range []string{"a", "b", "c", "z"} {
		errs, zero := reads(s, root, key)
		for i, e := range errs {
			if e != err {
				t.Errorf("%s, %q: call %d: %v, want %v", what, key, i, e, err)
			}
		}
		if !zero {
			t.Errorf("%s, %q: an answer beside an error", what, key)
		}
	}
}

// P7.1
func TestGet(t *testing.T) {
	_, s := made(t, 20)
	root, leaves := sample(t, s)
	for key, ok := range map[string]bool{
		"b": true, "e": true, "g": true, "i": true, "jj": true, "k": true, "m": true, "q": true,
		"": false, "a": false, "bb": false, "h": false, "j\x00": false, "l": false, "r": false, "\xff": false, strings.Repeat("b", 100): false,
	} {
		val := ""
		if ok {
			val = strings.ToUpper(key)
		}
		if got, found, err := tree.Get(s, root, key); got != val || found != ok || err != api.OK {
			t.Errorf("Get(%q): %q, %v, %v", key, got, found, err)
		}
	}
	if got, found, err := tree.Get(s, leaves[1], "jj"); got != "JJ" || !found || err != api.OK {
		t.Errorf("Get of a leaf: %q, %v, %v", got, found, err)
	}
	// A value may be empty, and is there.
	empty := put(t, s, root, "k", "")
	if got, found, err := tree.Get(s, empty, "k"); got != "" || !found || err != api.OK {
		t.Errorf("Get of an empty value: %q, %v, %v", got, found, err)
	}
}

// P7.1
func TestRange(t *testing.T) {
	_, s := made(t, 20)
	root, leaves := sample(t, s)
	all := []string{"b", "c", "d", "e", "f", "g", "i", "j", "jj", "k", "m", "n", "o", "p", "q"}
	bounds := []string{"", "a", "b", "b\x00", "c", "g", "gg", "h", "i", "ii", "jj", "k", "l", "m", "o", "q", "q\x00", "z", "\xff", strings.Repeat("j", 80)}
	for _, from := range bounds {
		for _, to := range bounds {
			var in []string
			for _, k := range all {
				if k >= from && (to == "" || k < to) {
					in = append(in, k)
				}
			}
			for _, most := range []int{math.MinInt, -1, 0, 1, 2, 3, 6, 7, 14, 15, 16, math.MaxInt} {
				l := entries(in[:min(max(most, 0), len(in))]...)
				if got, err := tree.Range(s, root, from, to, most); !slices.Equal(got, l) || err != api.OK {
					t.Errorf("Range(%q, %q, %d): %v, %v, want %v", from, to, most, got, err, l)
				}
			}
		}
	}
	l := entries("j", "jj")
	if got, err := tree.Range(s, leaves[1], "ii", "k", 9); !slices.Equal(got, l) || err != api.OK {
		t.Errorf("Range of a leaf: %v, %v", got, err)
	}
}

// P7.1
func TestLooks(t *testing.T) {
	_, s := made(t, 40)
	root, leaves := sample(t, s)
	high(t, s, root, 2)
	high(t, s, leaves[2], 1)
	if n, err := tree.Check(s, root); n != 15 || err != api.OK {
		t.Errorf("Check: %d, %v", n, err)
	}
	for id, top := range map[int]string{root: "b1", leaves[0]: "b0", leaves[1]: "i0", leaves[2]: "m0"} {
		if key, level, err := tree.Top(s, id); key+strconv.Itoa(level) != top || err != api.OK {
			t.Errorf("Top(%d): %q, %d, %v", id, key, level, err)
		}
	}
	l, kids, err := tree.Open(s, leaves[1])
	if !slices.Equal(l, entries("i", "j", "jj", "k")) || kids != nil || err != api.OK {
		t.Errorf("Open of a leaf: %v, %v, %v", l, kids, err)
	}
	l, kids, err = tree.Open(s, root)
	if l != nil || !slices.Equal(kids, []api.Kid{{Key: "b", Id: leaves[0]}, {Key: "i", Id: leaves[1]}, {Key: "m", Id: leaves[2]}}) || err != api.OK {
		t.Errorf("Open: %v, %v, %v", l, kids, err)
	}
	// The highest level is looked at like any other one.
	top := block(t, s, leaf("a", "b"))
	for level := 1; level <= 20; level++ {
		top = block(t, s, upper(level, "a", "b"), top, top)
	}
	if key, level, err := tree.Top(s, top); key != "a" || level != 20 || err != api.OK {
		t.Errorf("Top: %q, %d, %v", key, level, err)
	}
	high(t, s, top, 21)
}

// P7.1: the empty tree
func TestEmpty(t *testing.T) {
	for name, s := range map[string]*store.Store{"made": func() *store.Store { _, s := made(t, 8); return s }(), "nil": nil, "plain": {}} {
		has(t, s, 0, nil)
		high(t, s, 0, 0)
		if val, ok, err := tree.Get(s, 0, "a"); val != "" || ok || err != api.OK {
			t.Errorf("%s: Get: %q, %v, %v", name, val, ok, err)
		}
		if root, err := tree.Del(s, 0, "a"); root != 0 || err != api.OK {
			t.Errorf("%s: Del: %d, %v", name, root, err)
		}
	}
	_, s := made(t, 8)
	key, level, err := tree.Top(s, 0)
	if key != "" || level != 0 || err != api.EINVAL {
		t.Errorf("Top: %q, %d, %v", key, level, err)
	}
	l, kids, err := tree.Open(s, 0)
	if l != nil || kids != nil || err != api.EINVAL {
		t.Errorf("Open: %v, %v, %v", l, kids, err)
	}
	if s.Free() != 6 {
		t.Errorf("Free: %d", s.Free())
	}
}

// P7.1, P7.2: what the store answers
func TestStoreErrors(t *testing.T) {
	d, s := made(t, 20)
	root, _ := sample(t, s)
	for _, id := range []int{math.MinInt, -1, 1, 6, 19, 20, math.MaxInt} {
		fails(t, "not there", s, id, api.EINVAL)
	}
	fails(t, "nil", nil, root, api.ENIL)
	fails(t, "plain", &store.Store{}, root, api.ENIL)
	if id, err := tree.Put(nil, 0, "a", ""); id != 0 || err != api.ENIL {
		t.Errorf("Put into nil: %d, %v", id, err)
	}
	want(t, "Crash", d.Crash(), api.OK)
	fails(t, "no power", s, root, api.EIO)
}

// P7.1: blocks that are no nodes
func TestNoNodes(t *testing.T) {
	k64, v300 := strings.Repeat("k", 64), strings.Repeat("v", 300)
	for name, b := range map[string]struct {
		data string
		kids int
	}{
		"nothing":             {"", 0},
		"level alone":         {"\x00", 0},
		"other bytes":         {"a text", 0},
		"no items":            {"\x00\x00", 0},
		"no items above":      {"\x01\x00", 0},
		"nine items":          {leaf(letters(0, 9)...), 0},
		"nine items above":    {upper(1, letters(0, 9)...), 9},
		"an item less":        {"\x00\x03" + leaf("a", "b")[2:], 0},
		"an item more":        {"\x00\x01" + leaf("a", "b")[2:], 0},
		"bytes behind it":     {leaf("a", "b") + "\x00", 0},
		"a byte less":         {leaf("a", "b")[:11], 0},
		"keys that fall":      {leaf("b", "a"), 0},
		"keys alike":          {leaf("a", "a"), 0},
		"keys that fall late": {leaf("a", "b", "c", "bb"), 0},
		"an empty key":        {leaf("", "a"), 0},
		"a long key":          {"\x00\x01" + text(k64+"k") + text(""), 0},
		"a long value":        {"\x00\x01" + text("a") + text(v300+"v"), 0},
		"a leaf with kids":    {leaf("a", "b"), 2},
		"a kid less":          {upper(1, "a", "b"), 1},
		"a kid more":          {upper(1, "a", "b"), 3},
		"no kids":             {upper(1, "a", "b"), 0},
		"values above":        {"\x01" + leaf("a", "b")[1:], 2},
		"no values":           {"\x00" + upper(1, "a", "b")[1:], 0},
		"level 21":            {upper(21, "a", "b"), 2},
		"level 255":           {upper(255, "a", "b"), 2},
		"fallen keys above":   {upper(1, "b", "a"), 2},
		"alike keys above":    {upper(1, "a", "a"), 2},
		"empty key above":     {upper(1, "", "a"), 2},
		"long key above":      {upper(1, "a", k64+"k"), 2},
	} {
		_, s := made(t, 20)
		kid := block(t, s, leaf("a", "b", "c", "d"))
		id := block(t, s, b.data, slices.Repeat([]int{kid}, b.kids)...)
		fails(t, name, s, id, api.EIO)
	}
	// The greatest key and value, and eight items, may be.
	_, s := made(t, 20)
	id := block(t, s, "\x00\x01"+text(k64)+text(v300))
	has(t, s, id, []api.Entry{{Key: k64, Val: v300}})
	has(t, s, block(t, s, leaf(letters(0, 8)...)), entries(letters(0, 8)...))
}

// P7.1: kids that can't be, come to or not
func TestBadKids(t *testing.T) {
	for name, low := range map[string]func(s *store.Store) int{
		"no node":        func(s *store.Store) int { return block(t, s, "none") },
		"two levels low": func(s *store.Store) int { return block(t, s, leaf("m", "n", "o", "p")) },
		"alike levels": func(s *store.Store) int {
			kid := block(t, s, leaf("m", "n", "o", "p"))
			kid = block(t, s, upper(1, "m", "n", "o", "p"), kid, kid, kid, kid)
			return block(t, s, upper(2, "m", "n", "o", "p"), kid, kid, kid, kid)
		},
	} {
		_, s := made(t, 40)
		good := block(t, s, upper(1, "a", "e", "i", "j"),
			block(t, s, leaf("a", "b", "c", "d")), block(t, s, leaf("e", "f", "g", "h")),
			block(t, s, leaf("i", "ii", "iii", "iiii")), block(t, s, leaf("j", "k", "l", "ll")))
		root := block(t, s, upper(2, "a", "m"), good, low(s))
		high(t, s, root, 3)
		if val, ok, err := tree.Get(s, root, "f"); val != "F" || !ok || err != api.OK {
			t.Errorf("%s: Get past it: %q, %v, %v", name, val, ok, err)
		}
		if l, err := tree.Range(s, root, "l", "", 2); !slices.Equal(l, entries("l", "ll")) || err != api.OK {
			t.Errorf("%s: Range past it: %v, %v", name, l, err)
		}
		if l, err := tree.Range(s, root, "l", "m", 3); !slices.Equal(l, entries("l", "ll")) || err != api.OK {
			t.Errorf("%s: Range below it: %v, %v", name, l, err)
		}
		if l, err := tree.Range(s, root, "l", "", 3); l != nil || err != api.EIO {
			t.Errorf("%s: Range: %v, %v", name, l, err)
		}
		if val, ok, err := tree.Get(s, root, "n"); val != "" || ok || err != api.EIO {
			t.Errorf("%s: Get: %q, %v, %v", name, val, ok, err)
		}
		if n, err := tree.Check(s, root); n != 0 || err != api.EIO {
			t.Errorf("%s: Check: %d, %v", name, n, err)
		}
		if id, err := tree.Put(s, root, "n", ""); id != 0 || err != api.EIO {
			t.Errorf("%s: Put: %d, %v", name, id, err)
		}
		if id, err := tree.Del(s, root, "n"); id != 0 || err != api.EIO {
			t.Errorf("%s: Del: %d, %v", name, id, err)
		}
		put(t, s, root, "aa", "")
		// The same, a level lower.
		top := block(t, s, upper(3, "a", "x"), root, root)
		if l, err := tree.Range(s, top, "l", "", 3); l != nil || err != api.EIO {
			t.Errorf("%s: Range from above: %v, %v", name, l, err)
		}
		if n, err := tree.Check(s, top); n != 0 || err != api.EIO {
			t.Errorf("%s: Check from above: %d, %v", name, n, err)
		}
		// It is beside what has too few items then.
		if id, err := tree.Del(s, root, "a"); id != 0 || err != api.EIO {
			t.Errorf("%s: Del beside it: %d, %v", name, id, err)
		}
		if id := del(t, s, root, "aaa"); id != root {
			t.Errorf("%s: Del of what is not there: %d", name, id)
		}
	}
}

// P7.1: nodes that are no tree
func TestCheckForm(t *testing.T) {
	for name, c := range map[string]struct {
		leaves [][]string
		keys   []string
		ok     bool
	}{
		"a tree":                 {[][]string{{"a", "b", "c", "d"}, {"e", "f", "g", "h"}}, []string{"a", "e"}, true},
		"three items":            {[][]string{{"a", "b", "c"}, {"e", "f", "g", "h"}}, []string{"a", "e"}, false},
		"three items, last":      {[][]string{{"a", "b", "c", "d"}, {"e", "f", "g"}}, []string{"a", "e"}, false},
		"one kid":                {[][]string{{"a", "b", "c", "d"}}, []string{"a"}, false},
		"a lesser key":           {[][]string{{"a", "b", "c", "d"}, {"e", "f", "g", "h"}}, []string{"a", "dd"}, false},
		"a greater key":          {[][]string{{"a", "b", "c", "d"}, {"e", "f", "g", "h"}}, []string{"a", "ee"}, false},
		"a greater key, first":   {[][]string{{"a", "b", "c", "d"}, {"e", "f", "g", "h"}}, []string{"aa", "e"}, false},
		"a lesser key, first":    {[][]string{{"b", "bb", "c", "d"}, {"e", "f", "g", "h"}}, []string{"a", "e"}, false},
		"a key of the next one":  {[][]string{{"a", "b", "c", "e"}, {"e", "f", "g", "h"}}, []string{"a", "e"}, false},
		"a key past the next":    {[][]string{{"a", "b", "c", "ee"}, {"e", "f", "g", "h"}}, []string{"a", "e"}, false},
		"a key past all":         {[][]string{{"a", "b", "c", "z"}, {"e", "f", "g", "h"}}, []string{"a", "e"}, false},
		"eight kids":             {[][]string{letters(0, 4), letters(4, 4), letters(8, 4), letters(12, 4), letters(16, 4), {"ua", "ub", "uc", "ud"}, {"va", "vb", "vc", "vd"}, {"wa", "wb", "wc", "wd"}}, []string{"a", "e", "i", "m", "q", "ua", "va", "wa"}, true},
		"leaves the other way":   {[][]string{{"e", "f", "g", "h"}, {"a", "b", "c", "d"}}, []string{"a", "e"}, false},
		"a root with few, below": {[][]string{{"a"}, {"e"}}, []string{"a", "e"}, false},
	} {
		_, s := made(t, 40)
		n := 0
		var kids []int
		for _, l := range c.leaves {
			kids = append(kids, block(t, s, leaf(l...)))
			n += len(l)
		}
		e := api.OK
		if !c.ok {
			n, e = 0, api.EFORM
		}
		if got, err := tree.Check(s, block(t, s, upper(1, c.keys...), kids...)); got != n || err != e {
			t.Errorf("%s: %d, %v, want %d, %v", name, got, err, n, e)
		}
	}
	_, s := made(t, 40)
	kid := block(t, s, leaf("a", "b", "c", "d"))
	// The same block for two items is no tree, whatever their keys are; nor is one that goes wrong further down.
	if n, err := tree.Check(s, block(t, s, upper(1, "a", "b"), kid, kid)); n != 0 || err != api.EFORM {
		t.Errorf("a block twice: %d, %v", n, err)
	}
	other := block(t, s, leaf("e", "f", "g", "h"))
	few := block(t, s, upper(1, "a", "e"), kid, other)
	more := block(t, s, upper(1, "i", "m"), block(t, s, leaf(letters(8, 4)...)), block(t, s, leaf(letters(12, 4)...)))
	if n, err := tree.Check(s, block(t, s, upper(2, "a", "i"), few, more)); n != 0 || err != api.EFORM {
		t.Errorf("few items on level 1: %d, %v", n, err)
	}
	// One that stands below two, though each item has the key that it should have.
	four := func(from int) int { return block(t, s, leaf(letters(from, 4)...)) }
	twice, last := four(12), four(16)
	left := block(t, s, upper(1, "a", "e", "i", "m"), kid, other, four(8), twice)
	right := block(t, s, upper(1, "m", "q", "u", "ux"), twice, last, block(t, s, leaf("u", "ua", "ub", "uc")), block(t, s, leaf("ux", "v", "w", "x")))
	if n, err := tree.Check(s, block(t, s, upper(2, "a", "m"), left, right)); n != 0 || err != api.EFORM {
		t.Errorf("a block below two: %d, %v", n, err)
	}
	// What is no node, or not on its level, comes ahead.
	if n, err := tree.Check(s, block(t, s, upper(1, "a", "x"), block(t, s, leaf("a")), block(t, s, "none"))); n != 0 || err != api.EIO {
		t.Errorf("no node behind a fault: %d, %v", n, err)
	}
}

// bomb is blocks that are no tree, below which there are more ways than can be gone.
func bomb(t *testing.T, s *store.Store) int {
	t.Helper()
	id := block(t, s, leaf(letters(0, 8)...))
	for level := 1; level <= 20; level++ {
		id = block(t, s, upper(level, "a", "n", "o", "p", "q", "r", "s", "t"), slices.Repeat([]int{id}, 8)...)
	}
	return id
}

// P7.1: each call ends, whatever the blocks are
func TestEnds(t *testing.T) {
	_, s := made(t, 200)
	id := bomb(t, s)
	want(t, "Hold", s.Hold(id), api.OK)
	if n, err := tree.Check(s, id); n != 0 || err != api.EFORM {
		t.Errorf("Check: %d, %v", n, err)
	}
	for _, from := range []string{"", "b", "m", "z"} {
		for _, most := range []int{0, 1, math.MaxInt} {
			if l, err := tree.Range(s, id, from, "", most); len(l) > 8 || err != api.OK {
				t.Errorf("Range: %d, %v", len(l), err)
			}
		}
	}
	for _, key := range []string{"a", "b", "h", "z", "\x00"} {
		if _, _, err := tree.Get(s, id, key); err != api.OK {
			t.Errorf("Get: %v", err)
		}
		if _, err := tree.Del(s, id, key); err != api.OK {
			t.Errorf("Del: %v", err)
		}
		if _, err := tree.Put(s, id, "a", key); err != api.OK {
			t.Errorf("Put: %v", err)
		}
		s.Sweep()
	}
	// Nodes with too few items, one below the other, as no tree has them.
	thin := block(t, s, leaf("a"))
	for level := 1; level <= 20; level++ {
		thin = block(t, s, upper(level, "a"), thin)
	}
	if root := del(t, s, thin, "a"); root != 0 {
		t.Errorf("Del of all: %d", root)
	}
	if root := del(t, s, thin, "b"); root != thin {
		t.Errorf("Del of nothing: %d", root)
	}
	two := put(t, s, thin, "b", "B")
	if l, err := tree.Range(s, two, "", "", 9); !slices.Equal(l, entries("a", "b")) || err != api.OK {
		t.Errorf("Put: %v, %v", l, err)
	}
	one := del(t, s, two, "a")
	if l, err := tree.Range(s, one, "", "", 9); !slices.Equal(l, entries("b")) || err != api.OK {
		t.Errorf("Del: %v, %v", l, err)
	}
}

// P7.2: keys and values that can't be
func TestMay(t *testing.T) {
	_, s := made(t, 40)
	k64, v300 := strings.Repeat("k", 64), strings.Repeat("v", 300)
	root := put(t, s, 0, k64, v300)
	has(t, s, root, []api.Entry{{Key: k64, Val: v300}})
	free := s.Free()
	for _, at := range []int{0, root, 30, -1} {
		for _, key := range []string{"", k64 + "k", strings.Repeat("k", 1<<16)} {
			if id, err := tree.Put(s, at, key, ""); id != 0 || err != api.EINVAL {
				t.Errorf("Put of a key of %d bytes: %d, %v", len(key), id, err)
			}
			if id, err := tree.Del(s, at, key); id != 0 || err != api.EINVAL {
				t.Errorf("Del of a key of %d bytes: %d, %v", len(key), id, err)
			}
		}
		for _, val := range []string{v300 + "v", strings.Repeat("v", 1<<16)} {
			if id, err := tree.Put(s, at, "a", val); id != 0 || err != api.EINVAL {
				t.Errorf("Put of a value of %d bytes: %d, %v", len(val), id, err)
			}
		}
	}
	if s.Free() != free {
		t.Errorf("Free: %d, want %d", s.Free(), free)
	}
	if id := del(t, s, root, k64); id != 0 {
		t.Errorf("Del: %d", id)
	}
	// Wrong ahead of a store that is none.
	if id, err := tree.Put(nil, 0, "", ""); id != 0 || err != api.EINVAL {
		t.Errorf("Put: %d, %v", id, err)
	}
	if id, err := tree.Del(nil, 5, ""); id != 0 || err != api.EINVAL {
		t.Errorf("Del: %d, %v", id, err)
	}
}

// P7.2: the blocks are of the document's form
func TestForm(t *testing.T) {
	_, s := made(t, 40)
	root := 0
	for _, k := range []string{"c", "a", "b"} {
		root = put(t, s, root, k, strings.ToUpper(k))
	}
	b, err := s.Get(root)
	if want := (api.Block{Data: leaf("a", "b", "c")}); !reflect.DeepEqual(b, want) || err != api.OK {
		t.Errorf("a leaf: %v, %v", b, err)
	}
	for _, k := range letters(3, 6) {
		root = put(t, s, root, k, strings.ToUpper(k))
	}
	_, kids, _ := tree.Open(s, root)
	if len(kids) != 2 {
		t.Fatalf("kids: %v", kids)
	}
	b, err = s.Get(root)
	if want := (api.Block{Data: upper(1, "a", kids[1].Key), Kids: []int{kids[0].Id, kids[1].Id}}); !reflect.DeepEqual(b, want) || err != api.OK {
		t.Errorf("a root: %v, %v", b, err)
	}
}

// P7.2, P7.6: the document's example; each way round
func TestExample(t *testing.T) {
	_, s := made(t, 60)
	all := letters(0, 9)
	back := slices.Clone(all)
	slices.Reverse(back)
	for _, in := range [][]string{all, back, {"e", "a", "i", "b", "h", "c", "g", "d", "f"}} {
		for _, out := range [][]string{all, back, {"d", "f", "e", "c", "g", "b", "h", "a", "i"}} {
			root := 0
			left := []string{}
			for _, k := range in {
				root = swap(t, s, root, put(t, s, root, k, strings.ToUpper(k)))
				left = append(left, k)
				slices.Sort(left)
				has(t, s, root, entries(left...))
				if len(left) <= 8 {
					high(t, s, root, 1)
				}
			}
			high(t, s, root, 2)
			for _, k := range out {
				root = swap(t, s, root, del(t, s, root, k))
				left = slices.DeleteFunc(left, func(l string) bool { return l == k })
				has(t, s, root, entries(left...))
				if len(left) < 8 {
					high(t, s, root, min(len(left), 1))
				}
			}
			if root != 0 || s.Free() != 58 {
				t.Errorf("left: %d, free: %d", root, s.Free())
			}
		}
	}
}

// P7.2: what is not there
func TestDelNothing(t *testing.T) {
	_, s := made(t, 100)
	root := grown(t, s, numbered(100)...)
	live := s.Live()
	for _, key := range []string{"a", "k", "k1000\x00", "k10500", "k9", "z", strings.Repeat("k", 64)} {
		if id := del(t, s, root, key); id != root {
			t.Errorf("Del(%q): %d, want %d", key, id, root)
		}
	}
	if !slices.Equal(s.Live(), live) {
		t.Errorf("Del of nothing made blocks")
	}
}

// P7.2: an error, at whichever block
func TestRoom(t *testing.T) {
	d, s := made(t, 200)
	root := grown(t, s, numbered(120)...)
	row := grown(t, s, letters(0, 8)...)
	change := map[string]func(root int) (int, api.Errno){
		"Put":       func(root int) (int, api.Errno) { return tree.Put(s, root, "k1119\x00", "new") },
		"Put again": func(root int) (int, api.Errno) { return tree.Put(s, root, "k1060", "new") },
		"Put above": func(int) (int, api.Errno) { return tree.Put(s, row, "i", "new") },
		"Del":       func(root int) (int, api.Errno) { return tree.Del(s, root, "k1060") },
	}
	was := map[string]int{}
	for name, f := range change {
		before := s.Free()
		if id, err := f(root); id == 0 || err != api.OK {
			t.Fatalf("%s: %d, %v", name, id, err)
		}
		was[name] = before - s.Free()
		if n := s.Sweep(); n != was[name] {
			t.Errorf("%s: Sweep: %d, made %d", name, n, was[name])
		}
	}
	for name, f := range change {
		free, full := s.Free(), fill(t, s)
		for n := range was[name] + 1 {
			spare(t, s, full, n)
			id, err := f(root)
			if n == was[name] {
				if id == 0 || err != api.OK {
					t.Errorf("%s with just room: %d, %v", name, id, err)
				}
			} else if id != 0 || err != api.ENOSPC || s.Free() != 0 {
				t.Errorf("%s with room for %d: %d, %v, free: %d", name, n, id, err, s.Free())
			}
			if swept := s.Sweep(); swept != n {
				t.Errorf("%s with room for %d: Sweep: %d", name, n, swept)
			}
			has(t, s, root, entries(numbered(120)...))
		}
		spare(t, s, full, free)
	}
	// The power goes at whichever act.
	for name, f := range change {
		for n := range was[name] {
			want(t, "Fuse", d.Fuse(n), api.OK)
			if id, err := f(root); id != 0 || err != api.EIO {
				t.Errorf("%s with %d acts: %d, %v", name, n, id, err)
			}
			want(t, "Crash", d.Crash(d.Dirty()...), api.OK)
			want(t, "Start", d.Start(), api.OK)
			s.Sweep()
			has(t, s, root, entries(numbered(120)...))
		}
	}
}

// fill takes all blocks that are free; they are held.
func fill(t *testing.T, s *store.Store) []int {
	t.Helper()
	var l []int
	for s.Free() > 0 {
		id := block(t, s, "full")
		want(t, "Hold", s.Hold(id), api.OK)
		l = append(l, id)
	}
	return l
}

// spare leaves just so many blocks free of those that fill took.
func spare(t *testing.T, s *store.Store, full []int, n int) {
	t.Helper()
	for _, id := range full {
		if _, _, ok := s.Refs(id); ok && s.Free() < n {
			want(t, "Drop", s.Drop(id), api.OK)
		}
	}
	if s.Free() != n {
		t.Fatalf("free: %d, want %d", s.Free(), n)
	}
}

// tower is nodes of eight items each up to a level; below their first items all is as in a tree.
func tower(t *testing.T, s *store.Store, top int) int {
	t.Helper()
	id := block(t, s, leaf("a", "aa", "aaa", "aaaa", "ab", "ac", "ad", "ae"))
	for level := 1; level <= top; level++ {
		keys := []string{"a"}
		for i := range 7 {
			keys = append(keys, letters(level, 1)[0]+number(i, 1))
		}
		id = block(t, s, upper(level, keys...), slices.Repeat([]int{id}, 8)...)
	}
	return id
}

// P7.2: a level above 20
func TestTooHigh(t *testing.T) {
	_, s := made(t, 400)
	id := tower(t, s, 20)
	for _, key := range []string{"a\x00", "0", "aaaaa", "af"} {
		if root, err := tree.Put(s, id, key, "new"); root != 0 || err != api.EFBIG {
			t.Errorf("Put(%q): %d, %v", key, root, err)
		}
	}
	high(t, s, put(t, s, id, "aa", "new"), 21)
	high(t, s, put(t, s, del(t, s, id, "aa"), "a\x00", "new"), 21)
	lower := tower(t, s, 19)
	root := put(t, s, lower, "a\x00", "new")
	high(t, s, root, 21)
	if val, ok, err := tree.Get(s, root, "a\x00"); val != "new" || !ok || err != api.OK {
		t.Errorf("Get: %q, %v, %v", val, ok, err)
	}
}

// P7.2
func TestCost(t *testing.T) {
	for levels, cost := range map[int]int{
		math.MinInt: 1, -1: 1, 0: 1, 1: 3, 2: 5, 7: 15, 20: 41, 21: 43, 22: 43, math.MaxInt: 43,
	} {
		if got := tree.Cost(levels); got != cost {
			t.Errorf("Cost(%d): %d, want %d", levels, got, cost)
		}
	}
}

// What is answered is new memory.
func TestMemory(t *testing.T) {
	_, s := made(t, 40)
	root, leaves := sample(t, s)
	l, _ := tree.Range(s, root, "", "", 99)
	open, _, _ := tree.Open(s, leaves[0])
	_, kids, _ := tree.Open(s, root)
	for _, l := range [][]api.Entry{l, open} {
		for i := range l[:cap(l)] {
			l[:cap(l)][i] = api.Entry{}
		}
	}
	for i := range kids[:cap(kids)] {
		kids[:cap(kids)][i] = api.Kid{}
	}
	has(t, s, root, entries("b", "c", "d", "e", "f", "g", "i", "j", "jj", "k", "m", "n", "o", "p", "q"))
}
