package archive_test

import (
	"encoding/binary"
	"math"
	"reflect"
	"slices"
	"strings"
	"testing"

	"crannog/api"
	"crannog/archive"
	"crannog/calls"
	"crannog/crc"
	"crannog/facts"
	"crannog/instant"
	"crannog/join"
	"crannog/query"
)

// number and text are forms in bytes, written once more from the document.
func number(n, width int) string {
	return string(binary.BigEndian.AppendUint64(nil, uint64(n))[8-width:])
}

func text(s string) string { return number(len(s), 2) + s }

// of is the bits of a time.
func of(x float64) uint64 {
	k, _ := instant.Of(x)
	return k
}

// done is a state with calls done by a replica.
func done(t *testing.T, s api.State, who int, l ...api.Call) api.State {
	t.Helper()
	for _, c := range l {
		ans, out := calls.Do(s, who, c)
		if ans.Err != api.OK {
			t.Fatal(c, ans.Err)
		}
		s = join.States(s, out)
	}
	return s
}

// same tells whether items are.
func same(a, b []api.Item) bool {
	return slices.EqualFunc(a, b, func(x, y api.Item) bool {
		equal := slices.Equal(x.Xattrs, y.Xattrs)
		x.Xattrs, y.Xattrs = nil, nil
		return equal && reflect.DeepEqual(x, y)
	})
}

// town is a volume: /.lost/c1-0, in it b/f of 70 bytes, which is g and /f, too, with xattrs, and a symlink s; /d, in it a file n.
func town(t *testing.T) api.State {
	t.Helper()
	other := done(t, facts.Empty(), 1, api.Call{Kind: api.CMkdir, Path: "/d", N: 5}, api.Call{Kind: api.CCreate, Path: "/d/n", Time: 9})
	s := done(t, facts.Empty(), 0,
		api.Call{Kind: api.CMkdir, Path: "/d", N: 0o700, Time: 1}, api.Call{Kind: api.CMkdir, Path: "/d/b", N: 0o711, Time: -1},
		api.Call{Kind: api.CCreate, Path: "/d/b/f", N: 0o644, Time: 2.5}, api.Call{Kind: api.CLink, Path: "/d/b/f", To: "/d/g"}, api.Call{Kind: api.CLink, Path: "/d/b/f", To: "/f"},
		api.Call{Kind: api.CSymlink, Path: "/d/s", To: "a text", N: 0o777, Time: math.Inf(-1)},
		api.Call{Kind: api.CWrite, Path: "/f", Off: 60, Data: "0123456789"},
		api.Call{Kind: api.CSetx, Path: "/f", To: "z", Data: "26"}, api.Call{Kind: api.CSetx, Path: "/f", To: "a"}, api.Call{Kind: api.CSetx, Path: "/f", To: "b", Data: "x"}, api.Call{Kind: api.CDelx, Path: "/f", To: "b"},
		api.Call{Kind: api.CCreate, Path: "/gone"}, api.Call{Kind: api.CUnlink, Path: "/gone"})
	return join.States(s, other)
}

var (
	dirB  = api.Item{Path: "/b", Kind: api.Dir, Mode: 0o711, Time: of(-1), Same: -1}
	fileF = api.Item{Path: "/b/f", Kind: api.File, Mode: 0o644, Time: of(2.5), Body: strings.Repeat("\x00", 60) + "0123456789", Xattrs: []api.Xattr{{Name: "a"}, {Name: "z", Val: "26"}}, Same: -1}
	symS  = api.Item{Path: "/s", Kind: api.Sym, Mode: 0o777, Time: of(math.Inf(-1)), Body: "a text", Same: -1}
	linkG = api.Item{Path: "/g", Kind: api.File, Same: 1}
)

// at is an item elsewhere.
func at(it api.Item, path string) api.Item {
	it.Path = path
	return it
}

// P26.1
func TestItems(t *testing.T) {
	v := town(t)
	was := facts.Clone(v)
	dirD := api.Item{Path: "/d", Kind: api.Dir, Mode: 0o700, Time: of(1), Same: -1}
	inLost := []api.Item{at(dirD, "/c1-0"), at(dirB, "/c1-0/b"), at(fileF, "/c1-0/b/f"), {Path: "/c1-0/g", Kind: api.File, Same: 2}, at(symS, "/c1-0/s")}
	for _, c := range []struct {
		path string
		want []api.Item
	}{
		{"/", []api.Item{{Path: "/d", Kind: api.Dir, Mode: 5, Time: of(0), Same: -1}, {Path: "/d/n", Kind: api.File, Time: of(9), Same: -1}, at(fileF, "/f")}},
		{"/d", []api.Item{{Path: "/n", Kind: api.File, Time: of(9), Same: -1}}},
		{"/.lost", inLost},
		{"/.lost/c1-0", []api.Item{dirB, fileF, linkG, symS}},
		{"/.lost/c1-0/b", []api.Item{at(fileF, "/f")}},
	} {
		l, err := archive.Items(v, c.path)
		if err != api.OK || !same(l, c.want) {
			t.Errorf("%s: %v, %v", c.path, l, err)
		}
		for i := range l {
			clear(l[i].Xattrs[:cap(l[i].Xattrs)])
		}
		clear(l[:cap(l)])
		if l, _ := archive.Items(v, c.path); !same(l, c.want) || !facts.Same(v, was) {
			t.Error(c.path, "is another one then")
		}
	}
	if l, err := archive.Items(facts.Empty(), "/"); len(l) != 0 || err != api.OK {
		t.Error(l, err)
	}
}

// P26.1: what is refused, in order.
func TestItemsRefused(t *testing.T) {
	v := town(t)
	bad := facts.Clone(v)
	bad.Links[0].Name = "/"
	for _, c := range []struct {
		v    api.State
		path string
		err  api.Errno
	}{
		{bad, "", api.EFORM}, {bad, "/none", api.EFORM}, {bad, "/", api.EFORM}, {api.State{}, "/", api.EFORM},
		{v, "", api.EINVAL}, {v, "d", api.EINVAL}, {v, "/d/", api.EINVAL}, {v, "//", api.EINVAL}, {v, "/" + strings.Repeat("n", 17), api.ENAMETOOLONG}, {v, strings.Repeat("/a", 9), api.ENAMETOOLONG}, {v, strings.Repeat("/", 121), api.ENAMETOOLONG},
		{v, "/none", api.ENOENT}, {v, "/d/none", api.ENOENT}, {v, "/none/none", api.ENOENT}, {v, "/f/none", api.ENOTDIR}, {v, "/f", api.ENOTDIR}, {v, "/.lost/c1-0/s", api.ENOTDIR}, {v, "/gone", api.ENOENT},
	} {
		if l, err := archive.Items(c.v, c.path); err != c.err || len(l) != 0 {
			t.Errorf("%q: %v, %v, want %v", c.path, l, err, c.err)
		}
	}
}

// form is an item's bytes, written once more from the document.
func form(it api.Item) string {
	b := text(it.Path) + number(it.Kind, 1) + number(it.Same+1, 2) + number(it.Mode, 2)
	b += string(binary.BigEndian.AppendUint64(nil, it.Time)) + text(it.Body) + number(len(it.Xattrs), 1)
	for _, x := range it.Xattrs {
		b += text(x.Name) + text(x.Val)
	}
	return b
}

// sealed is items' bytes.
func sealed(l ...api.Item) string {
	b := []string{number(len(l), 2)}
	for _, it := range l {
		b = append(b, form(it))
	}
	return crc.Seal(strings.Join(b, ""))
}

// P26.2: just these bytes, of whatever items.
func TestPut(t *testing.T) {
	want := "\x00\x02" +
		"\x00\x04/b/f\x01\x00\x00\x01\xa4\xc0\x04\x00\x00\x00\x00\x00\x00\x00\x46" + strings.Repeat("\x00", 60) + "0123456789" + "\x02\x00\x01a\x00\x00\x00\x01z\x00\x0226" +
		"\x00\x02/g\x01\x00\x01\x00\x00\x00\x00\x00\x00\x00\x00\x00\x00\x00\x00\x00"
	if s := archive.Put([]api.Item{fileF, at(api.Item{Kind: api.File, Same: 0}, "/g")}); s != crc.Seal(want) {
		t.Errorf("%q", s)
	}
	long := strings.Repeat("l", 70000)
	for _, l := range [][]api.Item{
		nil, {}, {{}}, {dirB, fileF, symS, linkG}, {linkG, linkG},
		{{Path: "p", Kind: -1, Same: -2, Mode: -1, Time: math.MaxUint64, Body: "\x00", Xattrs: make([]api.Xattr, 3)}},
		{{Kind: 256, Same: math.MaxInt, Mode: 1 << 16, Xattrs: make([]api.Xattr, 256)}, {Kind: math.MinInt, Same: math.MinInt, Mode: math.MaxInt, Time: 1<<63 | 1<<31}},
		make([]api.Item, 1001),
	} {
		if s := archive.Put(l); s != sealed(l...) {
			t.Errorf("%v: %q", l, s)
		}
	}
	cut := long[:65535]
	if s := archive.Put([]api.Item{{Path: long, Body: long, Xattrs: []api.Xattr{{Name: long, Val: long}}}}); s != sealed(api.Item{Path: cut, Body: cut, Xattrs: []api.Xattr{{Name: cut, Val: cut}}}) {
		t.Error("of long texts")
	}
	if s := archive.Put(make([]api.Item, 1<<16+1)); s != sealed(make([]api.Item, 1<<16+1)...) {
		t.Error("of many items")
	}
}

// with is an item that was changed.
func with(it api.Item, change func(it *api.Item)) api.Item {
	it.Xattrs = slices.Clone(it.Xattrs)
	change(&it)
	return it
}

// P26.2, P26.4: what may be, up to each limit.
func TestGet(t *testing.T) {
	plain := api.Item{Kind: api.File, Time: of(0), Same: -1}
	many := slices.Repeat([]api.Item{plain}, 1000)
	many[999] = api.Item{Kind: api.File, Same: 998}
	for i, l := range [][]api.Item{
		nil, {dirB, fileF, linkG, symS}, {dirB, fileF, linkG, at(linkG, "/h"), symS}, many, {plain}, {symS, {Kind: api.Sym}}, {symS, {Path: "/s", Kind: api.Sym}},
		{with(plain, func(it *api.Item) { it.Path = strings.Repeat("p", 8192) })}, {with(plain, func(it *api.Item) { it.Body = strings.Repeat("p", 1024) })},
		{with(symS, func(it *api.Item) { it.Body = strings.Repeat("p", 120) })}, {with(symS, func(it *api.Item) { it.Body = "p" })}, {with(plain, func(it *api.Item) { it.Body = "" })},
		{with(dirB, func(it *api.Item) { it.Mode = 511 })}, {with(dirB, func(it *api.Item) { it.Mode, it.Time = 0, instant.Last() })},
		{with(dirB, func(it *api.Item) { it.Xattrs = slices.Repeat([]api.Xattr{{Name: "x", Val: "y"}}, 255) })}, {with(dirB, func(it *api.Item) {
			it.Xattrs = []api.Xattr{{Name: "", Val: ""}, {Name: strings.Repeat("n", 16), Val: strings.Repeat("v", 32)}}
		})},
	} {
		got, err := archive.Get(archive.Put(l))
		if err != api.OK || !same(got, l) {
			t.Errorf("%d: %v, %v", i, got, err)
		}
	}
}

// P26.2: what may not be.
func TestGetRefused(t *testing.T) {
	var all []string
	add := func(l ...api.Item) { all = append(all, sealed(l...)) }
	for _, change := range []func(it *api.Item){
		func(it *api.Item) { it.Kind = 0 }, func(it *api.Item) { it.Kind = 4 }, func(it *api.Item) { it.Kind = 255 },
		func(it *api.Item) { it.Mode = 512 }, func(it *api.Item) { it.Mode = 65535 },
		func(it *api.Item) { it.Time = 0 }, func(it *api.Item) { it.Time = math.MaxUint64 }, func(it *api.Item) { it.Time = 1<<63 - 1 }, // -0
		func(it *api.Item) { it.Path = strings.Repeat("p", 8193) }, func(it *api.Item) { it.Body = strings.Repeat("b", 1025) },
		func(it *api.Item) { it.Xattrs = []api.Xattr{{Name: strings.Repeat("n", 17)}} }, func(it *api.Item) { it.Xattrs = []api.Xattr{{Val: strings.Repeat("n", 33)}} },
		func(it *api.Item) { it.Same = 0 }, func(it *api.Item) { it.Same = 3 }, func(it *api.Item) { it.Same = 65534 },
	} {
		for _, it := range []api.Item{dirB, fileF, symS} {
			add(with(it, change))
		}
	}
	add(with(dirB, func(it *api.Item) { it.Body = "b" }))
	add(with(symS, func(it *api.Item) { it.Body = "" }))
	add(with(symS, func(it *api.Item) { it.Body = strings.Repeat("s", 121) }))
	for _, change := range []func(it *api.Item){
		func(it *api.Item) { it.Same = 0 }, func(it *api.Item) { it.Same = 2 }, func(it *api.Item) { it.Same = 3 }, func(it *api.Item) { it.Same = 4 },
		func(it *api.Item) { it.Kind = api.Dir }, func(it *api.Item) { it.Kind = api.Sym }, func(it *api.Item) { it.Kind = 0 },
		func(it *api.Item) { it.Mode = 1 }, func(it *api.Item) { it.Time = of(0) }, func(it *api.Item) { it.Body = "b" }, func(it *api.Item) { it.Xattrs = []api.Xattr{{}} },
		func(it *api.Item) { it.Same, it.Kind = 0, api.Dir },
	} {
		// Ahead of it: a directory, a file, a further link of that.
		add(dirB, fileF, linkG, with(at(linkG, "/h"), change))
	}
	add(slices.Repeat([]api.Item{dirB}, 1001)...)
	good := number(2, 2) + form(dirB) + form(fileF)
	for n := range len(good) {
		all = append(all, crc.Seal(good[:n]))
	}
	all = append(all, "", "short", crc.Seal(""), crc.Seal(good+"\x00"), crc.Seal("\x00"), crc.Seal("\x03"+good[1:]), good, strings.Repeat("\x00", 8))
	for _, s := range all {
		if l, err := archive.Get(s); err != api.EFORM || len(l) != 0 {
			t.Errorf("%q: %v, %v", s[:min(len(s), 60)], l, err)
		}
	}
	s := crc.Seal(good)
	for i := range len(s) {
		b := []byte(s)
		b[i] ^= 4
		if l, err := archive.Get(string(b)); err != api.EFORM || l != nil {
			t.Errorf("byte %d changed: %v, %v", i, l, err)
		}
	}
	if l, err := archive.Get(s); err != api.OK || len(l) != 2 {
		t.Error(l, err)
	}
}

// P26.3
func TestCalls(t *testing.T) {
	for dir, top := range map[string]string{"": "", "/": "", "/x": "/x", "/x/": "/x", "/x//": "/x/", "x": "x"} {
		want := []api.Call{
			{Kind: api.CMkdir, Path: top + "/b", N: 0o711, Time: -1},
			{Kind: api.CCreate, Path: top + "/b/f", N: 0o644, Time: 2.5},
			{Kind: api.CWrite, Path: top + "/b/f", Data: fileF.Body},
			{Kind: api.CSetx, Path: top + "/b/f", To: "a"},
			{Kind: api.CSetx, Path: top + "/b/f", To: "z", Data: "26"},
			{Kind: api.CLink, Path: top + "/b/f", To: top + "/g"},
			{Kind: api.CSymlink, Path: top + "/s", To: "a text", N: 0o777, Time: math.Inf(-1)},
		}
		items := []api.Item{dirB, fileF, linkG, symS}
		l := archive.Calls(items, dir)
		if !slices.Equal(l, want) || !same(items, []api.Item{dirB, fileF, linkG, symS}) {
			t.Errorf("%q: %v", dir, l)
		}
		clear(l[:cap(l)])
	}
	x := []api.Xattr{{Name: "k", Val: "v", Gone: true, At: api.Stamp{Time: 1}}, {}}
	for _, c := range []struct {
		l    []api.Item
		want []api.Call
	}{
		{nil, nil},
		{[]api.Item{{Path: "/f", Kind: api.File, Same: -1, Mode: 999}}, []api.Call{{Kind: api.CCreate, Path: "/d/f", N: 999}}},
		{[]api.Item{{Path: "/f", Kind: api.Dir, Same: -1, Xattrs: x}}, []api.Call{{Kind: api.CMkdir, Path: "/d/f"}, {Kind: api.CSetx, Path: "/d/f", To: "k", Data: "v"}, {Kind: api.CSetx, Path: "/d/f"}}},
		{[]api.Item{{Path: "/f", Kind: api.Dir, Same: -9, Body: "b"}}, []api.Call{{Kind: api.CMkdir, Path: "/d/f"}}},
		{[]api.Item{{Path: "/f", Kind: api.Dir, Same: 1}}, []api.Call{{Kind: api.CMkdir, Path: "/d/f"}}},
		{[]api.Item{{Path: "/f", Kind: api.Sym, Same: math.MinInt}}, []api.Call{{Kind: api.CSymlink, Path: "/d/f"}}},
		{[]api.Item{{Path: "/f", Kind: 9, Same: math.MaxInt, Time: 1}}, []api.Call{{Kind: api.CCreate, Path: "/d/f"}}},
		{[]api.Item{{Path: "/f", Kind: api.Dir, Xattrs: x}}, []api.Call{{Kind: api.CLink, Path: "/d/f", To: "/d/f"}}},
		{[]api.Item{{Path: "/f", Same: 1, Mode: 7, Body: "b"}, {Path: "g", Kind: api.File, Same: -1, Time: of(-0.5)}}, []api.Call{{Kind: api.CLink, Path: "/dg", To: "/d/f"}, {Kind: api.CCreate, Path: "/dg", Time: -0.5}}},
	} {
		if l := archive.Calls(c.l, "/d/"); !slices.Equal(l, c.want) {
			t.Errorf("%v: %v", c.l, l)
		}
	}
}

// P26.1, P26.4, P26.5: of any directory: each item is what is asked there; what was put is got; the calls lay the same items elsewhere.
func TestAny(t *testing.T) {
	further, anew, refused := 0, 0, 0
	for seed := range 60 {
		w := began(seed, 1+seed%3)
		for range 100 {
			s := w.reps[w.step()]
			dirs := []string{"/"}
			for _, f := range query.Tree(s) {
				if f.Kind == api.Dir && len(f.Path) < 100 && strings.Count(f.Path, "/") < 8 {
					dirs = append(dirs, f.Path)
				}
			}
			dir := one(w, dirs...)
			l, err := archive.Items(s, dir)
			if err != api.OK {
				t.Fatal(seed, dir, err)
			}
			if why := unlike(s, dir, l); why != "" {
				t.Fatalf("seed %d: %s: %s: %v of %v", seed, dir, why, l, s)
			}
			if got, err := archive.Get(archive.Put(l)); err != api.OK || !same(got, l) {
				t.Fatalf("seed %d: %v, not %v: %v", seed, got, l, err)
			}
			for _, it := range l {
				if it.Same >= 0 {
					further++
				}
			}
			if now, ok := laid(archive.Calls(l, "/")); !ok {
				refused++
			} else if again, err := archive.Items(now, "/"); err != api.OK || !same(again, l) {
				t.Fatalf("seed %d: %v, not %v: %v", seed, again, l, err)
			} else if len(l) > 3 {
				anew++
			}
		}
	}
	if further < 100 || anew < 100 {
		t.Error(further, anew, refused)
	}
}

// laid is an empty volume with calls done; false: one is refused.
func laid(l []api.Call) (api.State, bool) {
	s := facts.Empty()
	for _, c := range l {
		ans, out := calls.Do(s, 5, c)
		if ans.Err != api.OK {
			return s, false
		}
		s = join.States(s, out)
	}
	return s, true
}

// unlike is what items have else than is answered of what is below a directory; empty: nothing.
func unlike(s api.State, dir string, l []api.Item) string {
	top := strings.TrimSuffix(dir, "/")
	first, n := map[api.Stamp]int{}, 0
	for _, f := range query.Tree(s) {
		path, below := strings.CutPrefix(f.Path, top+"/")
		if !below || dir == "/" && (path == ".lost" || strings.HasPrefix(path, ".lost/")) {
			continue
		}
		if n == len(l) {
			return "too few"
		}
		it := l[n]
		if it.Path != "/"+path || it.Kind != f.Kind {
			return f.Path
		}
		node, _ := facts.Node(s, f.Node)
		if at, again := first[f.Node]; again {
			if !same([]api.Item{it}, []api.Item{{Path: it.Path, Kind: it.Kind, Same: at}}) {
				return f.Path + ", once more"
			}
		} else if it.Same != -1 || it.Mode != node.Attr.Mode || it.Time != node.Attr.Time || it.Body != calls.Bytes(node)+node.Text || !slices.Equal(it.Xattrs, there(node.Xattrs)) {
			return "what " + f.Path + " has"
		} else {
			first[f.Node] = n
		}
		n++
	}
	if n < len(l) {
		return "too many"
	}
	return ""
}

// there is xattrs that are not gone, names and values alone.
func there(l []api.Xattr) []api.Xattr {
	var all []api.Xattr
	for _, x := range l {
		if !x.Gone {
			all = append(all, api.Xattr{Name: x.Name, Val: x.Val})
		}
	}
	return all
}
