package fs_test

import (
	"encoding/binary"
	"math"
	"slices"
	"strings"
	"testing"

	"crannog/api"
	"crannog/crc"
	"crannog/dev"
	"crannog/diff"
	"crannog/facts"
	"crannog/fs"
	"crannog/join"
	"crannog/store"
	"crannog/tree"
)

// number and text are forms in bytes, written once more from the document.
func number(n, width int) string {
	return string(binary.BigEndian.AppendUint64(nil, uint64(n))[8-width:])
}

func text(s string) string { return number(len(s), 2) + s }

func want(t *testing.T, what string, got, want api.Errno) {
	t.Helper()
	if got != want {
		t.Errorf("%s: %v, want %v", what, got, want)
	}
}

func is[T comparable](t *testing.T, what string, got, want T) {
	t.Helper()
	if got != want {
		t.Errorf("%s: %v, want %v", what, got, want)
	}
}

// device is one of so many blocks.
func device(t *testing.T, n int) *dev.Dev {
	t.Helper()
	d, err := dev.New(n)
	if err != api.OK {
		t.Fatal(err)
	}
	return d
}

// formatted is a file system upon a device of so many blocks.
func formatted(t *testing.T, n, who, vols int) (*dev.Dev, *fs.Fs) {
	t.Helper()
	d := device(t, n)
	f, err := fs.Format(d, who, vols)
	if err != api.OK {
		t.Fatal(err)
	}
	return d, f
}

// opened is the file system that lies on a device.
func opened(t *testing.T, d *dev.Dev) *fs.Fs {
	t.Helper()
	f, err := fs.Open(d)
	if err != api.OK {
		t.Fatal(err)
	}
	return f
}

// restart is a crash, and power anew.
func restart(d *dev.Dev, keep ...int) {
	d.Crash(keep...)
	d.Start()
}

func mkdir(path string) api.Call { return api.Call{Kind: api.CMkdir, Path: path} }

// do has a call done.
func do(t *testing.T, f *fs.Fs, name string, c api.Call) {
	t.Helper()
	if ans, _ := f.Call(name, c); ans.Err != api.OK {
		t.Fatal(name, c, ans.Err)
	}
}

func state(t *testing.T, f *fs.Fs, name string) api.State {
	t.Helper()
	s, err := f.State(name)
	if err != api.OK {
		t.Fatal(name, err)
	}
	return s
}

// has tells whether there is something at a path of a volume.
func has(f *fs.Fs, name, path string) bool {
	ans, _ := f.Call(name, api.Call{Kind: api.CStat, Path: path})
	return ans.Err == api.OK
}

// names of all volumes.
func listed(f *fs.Fs) string {
	var l []string
	for _, v := range f.Vols() {
		l = append(l, v.Name)
	}
	return strings.Join(l, " ")
}

// P15.1
func TestNote(t *testing.T) {
	for _, c := range []struct {
		who, boot int
		note      string
	}{
		{3, 258, "F\x03\x00\x00\x00\x00\x01\x02"},
		{0, 1, "F\x00\x00\x00\x00\x00\x00\x01"},
		{7, 1 << 40, "F\x07\x01\x00\x00\x00\x00\x00"},
		{-1, -2, "F\xff\xff\xff\xff\xff\xff\xfe"},
		{256, 1 << 48, "F\x00\x00\x00\x00\x00\x00\x00"},
		{math.MinInt, math.MaxInt, "F\x00\xff\xff\xff\xff\xff\xff"},
	} {
		if s := fs.Note(c.who, c.boot); s != c.note {
			t.Errorf("%d, %d: %q", c.who, c.boot, s)
		}
		w, b, err := fs.Noted(c.note)
		may := c.who >= 0 && c.who <= 7 && c.boot >= 1 && c.boot <= 1<<40
		if may && (w != c.who || b != c.boot || err != api.OK) || !may && (w != 0 || b != 0 || err != api.EFORM) {
			t.Errorf("%q: %d, %d, %v", c.note, w, b, err)
		}
	}
	for _, s := range []string{
		"", "F", "F\x03", "F\x03\x00\x00\x00\x00\x01", "F\x03\x00\x00\x00\x00\x00\x01\x00", "G\x03\x00\x00\x00\x00\x00\x01", "f\x03\x00\x00\x00\x00\x00\x01",
		"\x03\x00\x00\x00\x00\x00\x01", "F\x08\x00\x00\x00\x00\x00\x01", "F\xff\x00\x00\x00\x00\x00\x01", "F\x00\x00\x00\x00\x00\x00\x00",
		"F\x00\x01\x00\x00\x00\x00\x01", "F\x00\xff\xff\xff\xff\xff\xff", strings.Repeat("F", 9000),
	} {
		if w, b, err := fs.Noted(s); w != 0 || b != 0 || err != api.EFORM {
			t.Errorf("%q: %d, %d, %v", s, w, b, err)
		}
	}
	for who := range 8 {
		for _, boot := range []int{1, 2, 255, 256, 1<<40 - 1, 1 << 40} {
			if w, b, err := fs.Noted(fs.Note(who, boot)); w != who || b != boot || err != api.OK {
				t.Errorf("%d, %d: %d, %d, %v", who, boot, w, b, err)
			}
		}
	}
}

// P15.1
func TestTop(t *testing.T) {
	one := func(name string, kind int) string { return text(name) + number(kind, 1) }
	many := number(200, 1)
	var kids []int
	for i := range 200 {
		kids = append(kids, 1000+i)
		many += one(string([]byte{'n', byte('a' + i/16), byte('a' + i%16)}), 1+i%3)
	}
	for _, c := range []struct {
		kids []int
		data string
		ok   bool
	}{
		{nil, "\x00", true},
		{[]int{5}, "\x01" + one("v0", 1), true},
		{[]int{5}, "\x01" + one("s", 2), true},
		{[]int{5}, "\x01" + one("c", 3), true},
		{[]int{9, 2, 9}, "\x03" + one("a", 1) + one("ab", 3) + one("b", 2), true},
		{[]int{-1, 0}, "\x02" + one("sixteen bytes it", 1) + one("v0", 1), true},
		{kids, many, true},
		{nil, "", false},
		{nil, "\x00\x00", false},
		{[]int{5}, "\x00", false},
		{nil, "\x01" + one("v0", 1), false},
		{[]int{5, 6}, "\x01" + one("v0", 1), false},
		{[]int{5}, "\x02" + one("v0", 1) + one("v1", 1), false},
		{[]int{5}, "\x01" + one("v0", 1) + "\x00", false},
		{[]int{5}, "\x01" + text("v0"), false},
		{[]int{5}, "\x01" + one("v0", 0), false},
		{[]int{5}, "\x01" + one("v0", 4), false},
		{[]int{5}, "\x01" + one("v0", 255), false},
		{[]int{5}, "\x01" + one("", 1), false},
		{[]int{5}, "\x01" + one(".", 1), false},
		{[]int{5}, "\x01" + one("a/b", 1), false},
		{[]int{5}, "\x01" + one("a\x00", 1), false},
		{[]int{5}, "\x01" + one("seventeen bytes..", 1), false},
		{[]int{5, 6}, "\x02" + one("b", 1) + one("a", 1), false},
		{[]int{5, 6}, "\x02" + one("b", 1) + one("b", 2), false},
		{make([]int, 256), "\x00", false},
	} {
		l, err := fs.Top(api.Block{Kids: c.kids, Data: c.data})
		if !c.ok {
			if len(l) != 0 || err != api.EFORM {
				t.Errorf("%v, %q: %v, %v", c.kids, c.data, l, err)
			}
			continue
		}
		if err != api.OK || len(l) != len(c.kids) {
			t.Errorf("%v, %q: %v, %v", c.kids, c.data, l, err)
			continue
		}
		data := number(len(l), 1)
		for i, s := range l {
			data += one(s.Name, s.Kind)
			is(t, "a root", s.Root, c.kids[i])
		}
		is(t, "all of it", data, c.data)
	}
}

// P15.1
func TestMainAndNeed(t *testing.T) {
	for i, s := range map[int]string{0: "v0", 1: "v1", 2: "v2", 9: "v9", 10: "v:", 207: "v\xff", 208: "v\x00", 256: "v0", -1: "v/", -48: "v\x00", -49: "v\xff", math.MaxInt: "v/", math.MinInt: "v0"} {
		is(t, "Main", fs.Main(i), s)
	}
	for _, c := range [][3]int{{0, 0, 3}, {2, 0, 25}, {1, 1, 16}, {3, 1, 42}, {5, 2, 78}, {-1, -1, 3}, {7, -9, 80}, {1 << 20, 30, 1<<20*71 + 3}, {math.MaxInt, math.MaxInt, 1<<20*71 + 3}, {math.MinInt, math.MinInt, 3}} {
		is(t, "Need", fs.Need(c[0], c[1]), c[2])
		is(t, "Cost", fs.Need(c[0], c[1]), diff.Cost(c[0], c[1])+3)
	}
}

// P15.2: how it lies on the device.
func TestFormat(t *testing.T) {
	for vols := 1; vols <= 3; vols++ {
		for _, who := range []int{0, 5, 7} {
			d, f := formatted(t, 300, who, vols)
			w, boot, mains := f.Own()
			if w != who || boot != 1 || mains != vols || len(d.Dirty()) > 0 {
				t.Fatal(w, boot, mains, d.Dirty())
			}
			is(t, "Free", f.Free(), 300-2-vols-1)
			s, err := store.Open(d)
			root, note, gen := s.Root()
			if err != api.OK || note != fs.Note(who, 1) || gen != 2 {
				t.Fatal(root, note, gen, err)
			}
			b, _ := s.Get(root)
			data := number(vols, 1)
			for i := range vols {
				name := "v" + string(rune('0'+i))
				data += text(name) + "\x01"
				l, err := tree.Range(s, b.Kids[i], "", "", 9)
				if err != api.OK || !slices.Equal(l, facts.Entries(facts.Empty())) {
					t.Error(l, err)
				}
				kept, seen, err := f.Kept(name)
				if kept != b.Kids[i] || seen != (api.Vector{}) || err != api.OK {
					t.Error(kept, seen, err)
				}
				is(t, "Vols", f.Vols()[i], api.Vol{Name: name, Kind: api.VolMain})
				if v := state(t, f, name); !facts.Same(v, facts.Empty()) {
					t.Error(v)
				}
				levels, err := f.Levels(name)
				if levels != 1 || err != api.OK {
					t.Error(levels, err)
				}
			}
			is(t, "Data", b.Data, data)
			is(t, "Kids", len(b.Kids), vols)
			is(t, "blocks", len(s.Live()), vols+1)
			is(t, "Vols", len(f.Vols()), vols)
		}
	}
}

// P15.2: what Format refuses, in order.
func TestFormatRefused(t *testing.T) {
	off := device(t, 300)
	off.Crash()
	for _, c := range []struct {
		d         *dev.Dev
		who, vols int
		err       api.Errno
	}{
		{nil, -1, 1, api.EINVAL}, {nil, 8, 1, api.EINVAL}, {off, 0, 0, api.EINVAL}, {off, 0, 4, api.EINVAL}, {off, 0, -1, api.EINVAL}, {off, math.MinInt, math.MaxInt, api.EINVAL},
		{nil, 0, 1, api.ENIL}, {&dev.Dev{}, 7, 3, api.ENIL}, {off, 0, 1, api.EIO},
		{device(t, 8), 0, 1, api.ENOSPC}, {device(t, 26), 0, 1, api.ENOSPC}, {device(t, 27), 0, 1, api.OK}, {device(t, 27), 0, 2, api.ENOSPC},
		{device(t, 28), 0, 2, api.OK}, {device(t, 28), 0, 3, api.ENOSPC}, {device(t, 29), 0, 3, api.OK}, {device(t, 4096), 7, 3, api.OK},
	} {
		f, err := fs.Format(c.d, c.who, c.vols)
		want(t, "Format", err, c.err)
		is(t, "a file system", f != nil, c.err == api.OK)
	}
	for fuse := 0; ; fuse++ {
		d := device(t, 30)
		d.Fuse(fuse)
		f, err := fs.Format(d, 0, 2)
		if err == api.OK {
			if fuse < 8 {
				t.Error("done by acts", fuse)
			}
			break
		}
		if f != nil || err != api.EIO {
			t.Fatal(fuse, f, err)
		}
	}
}

// laid is a device upon which a store has some volumes, made by hand.
func laid(t *testing.T, note string, by func(s *store.Store) int) *dev.Dev {
	t.Helper()
	d := device(t, 60)
	s, err := store.Format(d, "")
	if err != api.OK {
		t.Fatal(err)
	}
	want(t, "Commit", s.Commit(by(s), note), api.OK)
	return d
}

// P15.2: what Open refuses, in order.
func TestOpenRefused(t *testing.T) {
	top := func(data string, kids ...int) func(s *store.Store) int {
		return func(s *store.Store) int {
			id, _ := s.Put(kids, data)
			return id
		}
	}
	one := func(l ...api.Entry) func(s *store.Store) int {
		return func(s *store.Store) int {
			var changes []api.Change
			for _, e := range l {
				changes = append(changes, api.Change{Key: e.Key, Val: e.Val})
			}
			root, _ := diff.Apply(s, 0, changes)
			return top("\x01"+text("v0")+"\x01", root)(s)
		}
	}
	good, bad := facts.Entries(facts.Empty()), facts.Empty()
	bad.Nodes[0].Attr.Mode = 512
	off := device(t, 30)
	off.Crash()
	note, last := fs.Note(0, 5), fs.Note(0, 1<<40)
	for i, c := range []struct {
		d   *dev.Dev
		err api.Errno
	}{
		{nil, api.ENIL}, {&dev.Dev{}, api.ENIL}, {off, api.EIO}, {device(t, 30), api.ENOENT},
		{laid(t, note, one(good...)), api.OK},
		{laid(t, note, top("\x00")), api.OK},
		{laid(t, "", one(good...)), api.EIO},
		{laid(t, fs.Note(8, 5), one(good...)), api.EIO},
		{laid(t, fs.Note(0, 0), one(good...)), api.EIO},
		{laid(t, note, func(*store.Store) int { return 0 }), api.EIO},
		{laid(t, note, top("")), api.EIO},
		{laid(t, note, top("\x01"+text("v0")+"\x01")), api.EIO},
		{laid(t, note, one(good[0])), api.EIO},
		{laid(t, note, one(facts.Entries(bad)...)), api.EIO},
		{laid(t, note, func(s *store.Store) int { return top("\x01"+text("v0")+"\x01", top("\x00")(s))(s) }), api.EIO},
		{laid(t, last, one(good...)), api.EOVERFLOW},
		{laid(t, last, one(good[0])), api.EIO},
	} {
		f, err := fs.Open(c.d)
		if err != c.err || (f != nil) != (err == api.OK) {
			t.Errorf("%d: %v, want %v", i, err, c.err)
		}
	}
	d, _ := formatted(t, 40, 0, 1)
	s, _ := store.Open(d)
	root, note, _ := s.Root()
	d.Write(0, crc.Seal("S"+number(1<<40, 6)+number(root, 4)+number(40, 4)+text(note)))
	if f, err := fs.Open(d); f != nil || err != api.EOVERFLOW {
		t.Error("the last generation", err)
	}
}

// P15.2: it is opened as it lies there; the boot is kept at once, or not, wherever the power goes.
func TestOpen(t *testing.T) {
	d, f := formatted(t, 200, 4, 2)
	do(t, f, "v1", mkdir("/a"))
	want(t, "Snap", f.Snap("v1", "s"), api.OK)
	want(t, "Clone", f.Clone("v0", "c"), api.OK)
	do(t, f, "c", mkdir("/b"))
	want(t, "Commit", f.Commit(), api.OK)
	for boot := 2; boot < 6; boot++ {
		restart(d)
		g := opened(t, d)
		who, b, mains := g.Own()
		if who != 4 || b != boot || mains != 2 || listed(g) != "c s v0 v1" || !slices.Equal(g.Vols(), f.Vols()) {
			t.Fatal(who, b, mains, g.Vols())
		}
		for _, v := range f.Vols() {
			was, _ := f.Levels(v.Name)
			now, _ := g.Levels(v.Name)
			if !facts.Same(state(t, f, v.Name), state(t, g, v.Name)) || was != now {
				t.Error(v.Name, was, now)
			}
		}
		is(t, "Free", g.Free(), f.Free())
	}
	for _, keep := range [][]int{nil, {0}, {1}, {0, 1}} {
		for fuse := 0; ; fuse++ {
			_, boot, _ := opened(t, d).Own()
			d.Fuse(fuse)
			g, err := fs.Open(d)
			if err == api.OK {
				d.Fuse(-1)
				break
			}
			if g != nil || err != api.EIO {
				t.Fatal(err)
			}
			restart(d, keep...)
			if _, b, _ := opened(t, d).Own(); b != boot+1 && b != boot+2 {
				t.Fatal(boot, b)
			}
		}
	}
}

// P15.3
func TestCall(t *testing.T) {
	_, f := formatted(t, 300, 3, 1)
	ans, out := f.Call("v0", api.Call{Kind: api.CCreate, Path: "/f", N: 7, Time: 2})
	id := api.Stamp{Time: 1, Who: 3}
	if ans.Err != api.OK || out.Seen != (api.Vector{3: 1}) || len(out.Nodes) != 1 || out.Nodes[0].Id != id || len(out.Links) != 1 {
		t.Fatal(ans, out)
	}
	if s := state(t, f, "v0"); !facts.Same(s, join.States(facts.Empty(), out)) {
		t.Fatal(s)
	}
	is(t, "Vols", f.Vols()[0].Seen, api.Vector{3: 1})
	was, free := state(t, f, "v0"), f.Free()
	f.Snap("v0", "s")
	for _, c := range []struct {
		name string
		call api.Call
		err  api.Errno
	}{
		{"v1", mkdir("/a"), api.ENOENT}, {"", mkdir("/a"), api.ENOENT}, {"v0 ", mkdir("a"), api.ENOENT},
		{"v0", mkdir("/f"), api.EEXIST}, {"v0", mkdir("f"), api.EINVAL}, {"v0", api.Call{}, api.EINVAL},
		{"v0", api.Call{Kind: api.CStat, Path: "/f"}, api.OK}, {"v0", api.Call{Kind: api.CList, Path: "/"}, api.OK},
		{"v0", api.Call{Kind: api.CWrite, Path: "/f"}, api.OK}, {"v0", api.Call{Kind: api.CRename, Path: "/f", To: "/f"}, api.OK},
		{"s", mkdir("/a"), api.EROFS}, {"s", mkdir("/f"), api.EEXIST}, {"s", api.Call{Kind: api.CStat, Path: "/f"}, api.OK},
		{"s", api.Call{Kind: api.CWrite, Path: "/f"}, api.OK}, {"s", api.Call{Kind: api.CRename, Path: "/f", To: "/f"}, api.OK},
		{"s", api.Call{Kind: api.CChmod, Path: "/f", N: 7}, api.EROFS}, {"s", api.Call{Kind: api.CUnlink, Path: "/f"}, api.EROFS},
	} {
		ans, out := f.Call(c.name, c.call)
		if ans.Err != c.err || !facts.Same(out, api.State{}) || ans.Err != api.OK && (ans.Data != "" || ans.Names != nil || ans.Stat != api.Stat{}) {
			t.Error(c.name, c.call, ans, out)
		}
		if !facts.Same(state(t, f, "v0"), was) || !facts.Same(state(t, f, "s"), was) {
			t.Fatal("changed by", c.call)
		}
	}
	ans, _ = f.Call("s", api.Call{Kind: api.CStat, Path: "/f"})
	if ans.Stat.Node != id || ans.Stat.Mode != 7 {
		t.Error(ans)
	}
	is(t, "Free", f.Free() <= free, true)
}

// P15.3
func TestPut(t *testing.T) {
	_, f := formatted(t, 300, 0, 1)
	_, g := formatted(t, 300, 1, 1)
	do(t, g, "v0", mkdir("/a"))
	do(t, g, "v0", api.Call{Kind: api.CCreate, Path: "/a/f"})
	do(t, g, "v0", api.Call{Kind: api.CWrite, Path: "/a/f", Data: strings.Repeat("d", 200)})
	s := state(t, g, "v0")
	bad := facts.Clone(s)
	bad.Links[0].Name = ""
	f.Snap("v0", "s")
	f.Clone("v0", "c")
	want(t, "no such volume", f.Put("v1", bad), api.ENOENT)
	want(t, "a snapshot", f.Put("s", bad), api.EROFS)
	want(t, "one that may not be", f.Put("v0", bad), api.EINVAL)
	want(t, "nothing", f.Put("c", api.State{}), api.EINVAL)
	for _, name := range []string{"v0", "c", "s"} {
		if !facts.Same(state(t, f, name), facts.Empty()) {
			t.Error(name)
		}
	}
	want(t, "Put", f.Put("v0", s), api.OK)
	want(t, "Put", f.Put("v0", s), api.OK)
	want(t, "Put", f.Put("c", s), api.OK)
	if !facts.Same(state(t, f, "v0"), s) || !facts.Same(state(t, f, "c"), s) || !has(f, "c", "/a/f") {
		t.Error(state(t, f, "v0"))
	}
	want(t, "back", f.Put("v0", facts.Empty()), api.OK)
	if !facts.Same(state(t, f, "v0"), facts.Empty()) || has(f, "v0", "/a") || !has(f, "c", "/a") {
		t.Error(state(t, f, "v0"))
	}
}

// P15.3, P15.9
func TestSnapCloneDelete(t *testing.T) {
	_, f := formatted(t, 300, 0, 2)
	do(t, f, "v0", mkdir("/a"))
	for _, make := range []func(from, name string) api.Errno{f.Snap, f.Clone} {
		for _, c := range []struct {
			from, name string
			err        api.Errno
		}{
			{"v2", "", api.ENOENT}, {"", "x", api.ENOENT}, {"v0", "", api.EINVAL}, {"v0", "..", api.EINVAL}, {"v0", "a/b", api.EINVAL},
			{"v0", "seventeen bytes..", api.ENAMETOOLONG}, {"v0", "v0", api.EEXIST}, {"v0", "v1", api.EEXIST}, {"v1", "v0", api.EEXIST},
		} {
			want(t, c.from+" "+c.name, make(c.from, c.name), c.err)
		}
	}
	is(t, "volumes", listed(f), "v0 v1")
	want(t, "Snap", f.Snap("v0", "sixteen bytes it"), api.OK)
	want(t, "again", f.Clone("v1", "sixteen bytes it"), api.EEXIST)
	want(t, "Delete", f.Delete("sixteen bytes it"), api.OK)
	want(t, "Snap", f.Snap("v0", "s"), api.OK)
	want(t, "a clone of a snapshot", f.Clone("s", "c"), api.OK)
	want(t, "a snapshot of a clone", f.Snap("c", "cs"), api.OK)
	want(t, "a clone of a volume", f.Clone("v1", "z"), api.OK)
	want(t, "a clone of a clone", f.Clone("c", "cc"), api.OK)
	want(t, "a snapshot of a snapshot", f.Snap("s", "A"), api.OK)
	is(t, "volumes", listed(f), "A c cc cs s v0 v1 z")
	var kinds []int
	for _, v := range f.Vols() {
		kinds = append(kinds, v.Kind)
		is(t, v.Name+" knows", v.Seen == api.Vector{1}, v.Name != "v1" && v.Name != "z")
	}
	if !slices.Equal(kinds, []int{2, 3, 3, 2, 2, 1, 1, 3}) {
		t.Error(kinds)
	}
	_, _, mains := f.Own()
	is(t, "of all", mains, 2)
	want(t, "a seventh one", f.Snap("v0", "t"), api.ENOSPC)
	want(t, "a seventh one", f.Clone("v0", "t"), api.ENOSPC)
	want(t, "a seventh one of a name that is there", f.Clone("v0", "c"), api.EEXIST)
	do(t, f, "c", mkdir("/c"))
	do(t, f, "v0", mkdir("/v"))
	for _, c := range []struct{ name, paths string }{{"A", "a"}, {"c", "ac"}, {"cc", "a"}, {"cs", "a"}, {"s", "a"}, {"v0", "av"}, {"v1", ""}, {"z", ""}} {
		for _, p := range "acv" {
			is(t, c.name+" has "+string(p), has(f, c.name, "/"+string(p)), strings.ContainsRune(c.paths, p))
		}
	}
	want(t, "Delete", f.Delete("x"), api.ENOENT)
	want(t, "Delete", f.Delete("v0"), api.EPERM)
	want(t, "Delete", f.Delete("s"), api.OK)
	want(t, "Delete", f.Delete("s"), api.ENOENT)
	want(t, "Delete", f.Delete("c"), api.OK)
	is(t, "volumes", listed(f), "A cc cs v0 v1 z")
	want(t, "room for one", f.Snap("v0", "t"), api.OK)
	want(t, "and one", f.Snap("v0", "u"), api.OK)
	want(t, "and no more", f.Snap("v0", "w"), api.ENOSPC)
	if !has(f, "A", "/a") || !has(f, "t", "/v") || has(f, "cc", "/c") {
		t.Error("what is left is not as it was")
	}
}

// P15.3, DOC, Memory: what is handed in is not kept, what is handed out is nobody's.
func TestMemory(t *testing.T) {
	_, f := formatted(t, 300, 0, 1)
	spoil := func(s api.State) {
		for i := range s.Nodes {
			clear(s.Nodes[i].Pieces[:cap(s.Nodes[i].Pieces)])
			clear(s.Nodes[i].Xattrs[:cap(s.Nodes[i].Xattrs)])
		}
		clear(s.Nodes[:cap(s.Nodes)])
		clear(s.Links[:cap(s.Links)])
	}
	want := facts.Empty()
	for _, c := range []api.Call{mkdir("/a"), {Kind: api.CCreate, Path: "/f"}, {Kind: api.CWrite, Path: "/f", Data: "data"}, {Kind: api.CSetx, Path: "/f", To: "x", Data: "y"}} {
		_, out := f.Call("v0", c)
		want = join.States(want, out)
		spoil(out)
	}
	f.Snap("v0", "s")
	for range 2 {
		for _, name := range []string{"v0", "s"} {
			s := state(t, f, name)
			if !facts.Same(s, want) {
				t.Fatal(name, s)
			}
			spoil(s)
		}
	}
	s := facts.Clone(want)
	f.Put("v0", s)
	spoil(s)
	root, _, _ := f.Kept("v0")
	f.Hold(root)
	clear(f.Vols())
	f.Commit()
	s, _ = f.Load(root)
	spoil(s)
	for range 2 {
		now, _, _ := f.Kept("v0")
		l, _ := f.Diff(root, now)
		g, err := f.Grow(root, l)
		clear(l)
		if s, e := f.Load(g); err != api.OK || e != api.OK || !facts.Same(s, want) {
			t.Fatal(err, e, s)
		}
	}
	if s := state(t, f, "v0"); !facts.Same(s, want) || listed(f) != "s v0" {
		t.Error(s, listed(f))
	}
}

// DOC, Objects
func TestNone(t *testing.T) {
	for _, f := range []*fs.Fs{nil, {}} {
		who, boot, mains := f.Own()
		if who != 0 || boot != 0 || mains != 0 || f.Vols() != nil || f.Free() != 0 {
			t.Error("zero answers")
		}
		s, e1 := f.State("v0")
		n, e2 := f.Levels("v0")
		ans, out := f.Call("v0", mkdir("/a"))
		root, seen, e3 := f.Kept("v0")
		loaded, e4 := f.Load(2)
		l, e5 := f.Diff(2, 2)
		grown, e6 := f.Grow(0, nil)
		for i, err := range []api.Errno{e1, e2, e3, e4, e5, e6, ans.Err, f.Put("", api.State{}), f.Snap("", ""), f.Clone("", ""), f.Delete(""), f.Commit(), f.Hold(0), f.Drop(0)} {
			is(t, "of none: "+string(rune('a'+i)), err, api.ENIL)
		}
		if !facts.Same(s, api.State{}) || n != 0 || !facts.Same(out, api.State{}) || root != 0 || seen != (api.Vector{}) || !facts.Same(loaded, api.State{}) || l != nil || grown != 0 {
			t.Error("zero answers")
		}
	}
	_, f := formatted(t, 60, 0, 1)
	s, err := f.State("none")
	if err != api.ENOENT || !facts.Same(s, api.State{}) {
		t.Error(s, err)
	}
	if n, err := f.Levels("none"); n != 0 || err != api.ENOENT {
		t.Error(n, err)
	}
}

// P15.5
func TestCommitAndKept(t *testing.T) {
	d, f := formatted(t, 300, 2, 2)
	f.Snap("v0", "s")
	f.Clone("v0", "c")
	for name, e := range map[string]api.Errno{"x": api.ENOENT, "": api.ENOENT, "s": api.EPERM, "c": api.EPERM, "v0": api.OK, "v1": api.OK} {
		root, seen, err := f.Kept(name)
		if err != e || (root != 0) != (e == api.OK) || seen != (api.Vector{}) {
			t.Error(name, root, seen, err)
		}
	}
	first, _, _ := f.Kept("v0")
	other, _, _ := f.Kept("v1")
	do(t, f, "v0", mkdir("/a"))
	do(t, f, "v0", mkdir("/b"))
	if root, seen, err := f.Kept("v0"); root != first || seen != (api.Vector{}) || err != api.OK {
		t.Error("kept ahead of a commit:", root, seen, err)
	}
	if s, err := f.Load(first); err != api.OK || !facts.Same(s, facts.Empty()) {
		t.Error("what is kept stays:", s, err)
	}
	want(t, "Delete", f.Delete("s"), api.OK)
	want(t, "Delete", f.Delete("c"), api.OK)
	want(t, "Commit", f.Commit(), api.OK)
	second, seen, err := f.Kept("v0")
	if second == first || seen != (api.Vector{2: 2}) || err != api.OK {
		t.Error(second, seen, err)
	}
	if same, _, _ := f.Kept("v1"); same != other {
		t.Error("v1 was not changed")
	}
	if s, err := f.Load(second); err != api.OK || !facts.Same(s, state(t, f, "v0")) {
		t.Error(s, err)
	}
	if _, err := f.Load(first); err != api.EINVAL {
		t.Error("what was kept went:", err)
	}
	want(t, "Commit", f.Commit(), api.OK)
	if same, _, _ := f.Kept("v0"); same != second {
		t.Error("nothing was changed")
	}
	s, _ := store.Open(d)
	_, note, gen := s.Root()
	is(t, "note", note, fs.Note(2, 1))
	is(t, "generation", gen, 4)
	is(t, "Free", f.Free(), s.Free())
	do(t, f, "v0", mkdir("/c"))
	d.Fuse(1)
	want(t, "Commit", f.Commit(), api.EIO)
	if root, seen, err := f.Kept("v0"); root != second || seen != (api.Vector{2: 2}) || err != api.OK {
		t.Error("kept behind a commit that failed:", root, seen, err)
	}
}

// P15.6
func TestTrees(t *testing.T) {
	d, f := formatted(t, 200, 0, 1)
	do(t, f, "v0", mkdir("/a"))
	f.Commit()
	a, _, _ := f.Kept("v0")
	was := state(t, f, "v0")
	want(t, "Hold", f.Hold(a), api.OK)
	do(t, f, "v0", mkdir("/b"))
	f.Commit()
	b, _, _ := f.Kept("v0")
	now := state(t, f, "v0")
	lead := diff.Lists(facts.Entries(was), facts.Entries(now))
	if l, err := f.Diff(a, b); err != api.OK || !slices.Equal(l, lead) {
		t.Error(l, err)
	}
	if l, err := f.Diff(b, b); err != api.OK || len(l) != 0 {
		t.Error(l, err)
	}
	if l, err := f.Diff(0, b); err != api.OK || len(l) != len(facts.Entries(now)) {
		t.Error(l, err)
	}
	free := f.Free()
	g, err := f.Grow(a, lead)
	if err != api.OK {
		t.Fatal(err)
	}
	if s, err := f.Load(g); err != api.OK || !facts.Same(s, now) {
		t.Error(s, err)
	}
	if s, err := f.Load(a); err != api.OK || !facts.Same(s, was) {
		t.Error("it is as it was:", s, err)
	}
	want(t, "Drop", f.Drop(g), api.OK)
	want(t, "Drop", f.Drop(g), api.EINVAL)
	is(t, "Free", f.Free(), free)
	g, err = f.Grow(0, diff.Lists(nil, facts.Entries(was)))
	if s, e := f.Load(g); err != api.OK || e != api.OK || !facts.Same(s, was) {
		t.Error(s, err, e)
	}
	want(t, "Hold", f.Hold(g), api.OK)
	want(t, "Drop", f.Drop(g), api.OK)
	if _, err := f.Load(g); err != api.OK {
		t.Error("held twice, dropped once:", err)
	}
	want(t, "Drop", f.Drop(g), api.OK)
	if g, err := f.Grow(a, nil); g != a || err != api.OK {
		t.Error(g, err)
	}
	want(t, "Drop", f.Drop(a), api.OK)
	want(t, "Drop", f.Drop(a), api.OK)
	want(t, "all of it went", f.Drop(a), api.EINVAL)
	if s, err := f.Load(a); err != api.EINVAL || !facts.Same(s, api.State{}) {
		t.Error(s, err)
	}
	is(t, "Free", f.Free() > free, true)
	treesRefused(t, d, f, b)
}

// treesRefused is what is not to be done with trees; b is one.
func treesRefused(t *testing.T, d *dev.Dev, f *fs.Fs, b int) {
	t.Helper()
	for _, bad := range []int{-1, 1, 199, 200, math.MaxInt, math.MinInt} {
		s, e1 := f.Load(bad)
		x, e2 := f.Diff(bad, b)
		y, e3 := f.Diff(b, bad)
		g, e4 := f.Grow(bad, nil)
		if e1 != api.EINVAL || e2 != api.EINVAL || e3 != api.EINVAL || e4 != api.EINVAL || !facts.Same(s, api.State{}) || x != nil || y != nil || g != 0 {
			t.Error(bad, e1, e2, e3, e4)
		}
		want(t, "Hold", f.Hold(bad), api.EINVAL)
		want(t, "Drop", f.Drop(bad), api.EINVAL)
	}
	want(t, "Hold", f.Hold(0), api.EINVAL)
	want(t, "Drop", f.Drop(0), api.EINVAL)
	if s, err := f.Load(0); err != api.EFORM || !facts.Same(s, api.State{}) {
		t.Error("the empty tree is no state's:", s, err)
	}
	st, _ := store.Open(d)
	top, _, _ := st.Root()
	if s, err := f.Load(top); err != api.EIO || !facts.Same(s, api.State{}) {
		t.Error("the block of all volumes is no tree:", s, err)
	}
	if g, err := f.Grow(top, nil); err != api.EIO || g != 0 {
		t.Error(g, err)
	}
	free := f.Free()
	if g, err := f.Grow(b, []api.Change{{Key: "k", Val: "v"}, {Key: ""}}); err != api.EINVAL || g != 0 || f.Free() != free {
		t.Error(g, err)
	}
	// Of one level 13 blocks for each change, and 3.
	many := make([]api.Change, (free-3)/13+1)
	for i := range many {
		many[i].Key = "k"
	}
	if n, _ := f.Levels("v0"); n != 1 {
		t.Fatal(n)
	}
	if g, err := f.Grow(b, many); err != api.ENOSPC || g != 0 {
		t.Error(g, err)
	}
	if g, err := f.Grow(b, many[1:]); err != api.OK || f.Drop(g) != api.OK {
		t.Error(g, err)
	}
	if g, err := f.Grow(199, many); err != api.EINVAL || g != 0 {
		t.Error("the height's error stands first:", err)
	}
	is(t, "Free", f.Free(), free)
}
