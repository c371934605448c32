package calls_test

import (
	"math"
	"slices"
	"strings"
	"testing"

	"crannog/api"
	"crannog/calls"
	"crannog/facts"
	"crannog/instant"
	"crannog/join"
	"crannog/view"
)

const most = api.MaxTime

func stamp(time, who int) api.Stamp { return api.Stamp{Time: time, Who: who} }

// alone is a vector by which one event is known.
func alone(id api.Stamp) api.Vector {
	var v api.Vector
	v[id.Who] = id.Time
	return v
}

var (
	root = api.Stamp{}
	lost = stamp(0, 1)
	seen = api.Vector{50, 49, 48, 20}
	next = stamp(51, 2)               // the next event of replica 2
	only = api.Vector{2: 51}          // that alone
	knew = api.Vector{50, 49, 51, 20} // and all ahead of it
	zero = uint64(1 << 63)            // the time 0
	nan  = math.NaN()
	text = strings.Repeat("0123456789abcdef", 4) // a piece
)

// inode is one of 0 as a directory, of 1 as a file, of 2 as a symlink.
func inode(id api.Stamp) api.Inode {
	n := api.Inode{Id: id, Kind: api.Dir, Attr: api.Attr{At: id, Mode: 0o750, Time: zero + 1}}
	switch id.Who {
	case 1:
		n.Kind, n.Size.At = api.File, id
	case 2:
		n.Kind, n.Text = api.Sym, "/d/e"
	}
	return n
}

// link is one that is alive, where its event placed it.
func link(id, node, parent api.Stamp, name string) api.Link {
	return api.Link{Id: id, Node: node, At: id, Parent: parent, Name: name, Alive: alone(id)}
}

// What stands in the town below.
var (
	d, e, f, s, x, g, k = stamp(1, 0), stamp(2, 0), stamp(3, 1), stamp(4, 2), stamp(5, 0), stamp(6, 1), stamp(7, 1)
	m, y, w, o, h, gone = stamp(8, 0), stamp(9, 0), stamp(10, 0), stamp(11, 0), stamp(12, 1), stamp(13, 1)
	f2, k2, d2          = stamp(14, 1), stamp(15, 1), stamp(30, 0) // of f a second link, of k one under its name; when d was moved
)

/*
town is a volume, made by hand:

	/d         a directory, moved to its name behind x: that one is /.lost/c5-0
	/d/e       a directory, in which k2 stands as k; k, of the same name, is /.lost/c7-1
	/d/e/k     a file (k2)
	/d/f2      the same file as f
	/empty     a directory (w)
	/f         a file of 70 bytes, with xattrs a, b that is gone, z that is empty
	/ghost     a directory (o) that was removed, but for h, of which nobody knew
	/ghost/h   a file
	/s         a symlink
	/.lost/c5-0    a directory (x)
	/.lost/c5-0/g  a file
	/.lost/c7-1    a file (k)
	/.lost/c9-0    a directory (y), placed in m
	/.lost/c9-0/m  a directory, in which nothing shows

gone is a file that was unlinked.
*/
func town() api.State {
	v := facts.Empty()
	v.Seen = seen
	for _, id := range []api.Stamp{d, e, f, s, x, g, k, m, y, w, o, h, gone, k2} {
		v.Nodes = append(v.Nodes, inode(id))
	}
	n := &v.Nodes[3]
	n.Size.N = 70
	n.Pieces = []api.Piece{{Index: 0, At: f, Data: text}, {Index: 1, At: f, Data: "uvwxyz"}}
	n.Xattrs = []api.Xattr{{Name: "a", At: f, Val: "1"}, {Name: "b", At: f, Gone: true}, {Name: "z", At: f}}
	v.Links = []api.Link{
		link(d, d, root, "d"), link(e, e, d, "e"), link(f, f, root, "f"), link(s, s, root, "s"), link(x, x, root, "d"),
		link(g, g, x, "g"), link(k, k, e, "k"), link(m, m, y, "m"), link(y, y, m, "y"), link(w, w, root, "empty"),
		link(o, o, root, "ghost"), link(h, h, o, "h"), link(gone, gone, root, "gone"), link(f2, f, d, "f2"), link(k2, k2, e, "k"),
	}
	v.Links[0].At = d2
	v.Links[10].Dead, v.Links[12].Dead = seen, seen
	return v
}

// do is a call of replica 2 that changes nothing of what is handed in.
func do(t *testing.T, v api.State, c api.Call) (api.Answer, api.State) {
	t.Helper()
	was := facts.Clone(v)
	ans, out := calls.Do(v, 2, c)
	if !facts.Same(v, was) {
		t.Fatalf("%v: the state is changed", c)
	}
	return ans, out
}

// P13.1, P13.2: the town shows as it should.
func TestTown(t *testing.T) {
	v := town()
	if facts.Check(v) != api.OK {
		t.Fatal("it may not be")
	}
	var l []string
	for _, k := range view.Shown(v) {
		l = append(l, k.Name)
	}
	want := []string{"d", "empty", "f", "ghost", "s", "c5-0", "c7-1", "c9-0", "e", "f2", "k", "g", "m", "h"}
	if !slices.Equal(l, want) {
		t.Fatal(l)
	}
}

// P13.1, with the chapter's example.
func TestExample(t *testing.T) {
	v := facts.Empty()
	ans, out := calls.Do(v, 0, api.Call{Kind: api.CMkdir, Path: "/a"})
	id := stamp(1, 0)
	want := api.State{
		Seen:  api.Vector{1},
		Nodes: []api.Inode{{Id: id, Kind: api.Dir, Attr: api.Attr{At: id, Time: zero}}},
		Links: []api.Link{{Id: id, Node: id, At: id, Name: "a", Alive: api.Vector{1}}},
	}
	if !calls.Same(ans, api.Answer{}) || !facts.Same(out, want) {
		t.Fatal(ans, out)
	}
	ans, out = calls.Do(join.States(v, out), 7, api.Call{Kind: api.CList, Path: "/"})
	if !calls.Same(ans, api.Answer{Names: []string{".lost", "a"}}) || !facts.Same(out, api.State{}) {
		t.Fatal(ans, out)
	}
}

// touch, kill and place are what an event writes of links.
func touch(id api.Stamp) api.Link { return api.Link{Id: id, Alive: only} }

func kill(id api.Stamp) api.Link { return api.Link{Id: id, Dead: knew} }

func place(id, node, parent api.Stamp, name string) api.Link {
	return api.Link{Id: id, Node: node, At: next, Parent: parent, Name: name, Alive: only}
}

func links(l ...api.Link) api.State { return api.State{Links: l} }

func with(n api.Inode, l ...api.Link) api.State {
	return api.State{Nodes: []api.Inode{n}, Links: l}
}

func at(n api.Inode) api.Inode {
	n.Id, n.Attr.At = next, next
	return n
}

func piece(index int, data string) api.Piece { return api.Piece{Index: index, At: next, Data: data} }

func size(n int) api.Size { return api.Size{At: next, N: n} }

// P13.1, P13.2: what changes of names write, as a whole.
func TestWritesNames(t *testing.T) {
	time, _ := instant.Of(-2.5)
	dir := at(api.Inode{Kind: api.Dir, Attr: api.Attr{Mode: 0o711, Time: time}})
	file := at(api.Inode{Kind: api.File, Attr: api.Attr{Mode: 0o777, Time: zero}, Size: size(0)})
	sym := at(api.Inode{Kind: api.Sym, Attr: api.Attr{Time: instant.Last()}, Text: "f\x00/../"})
	writes(t, []written{
		{api.Call{Kind: api.CMkdir, Path: "/n", N: 0o711, Time: -2.5, To: "t", Off: 3, Data: "d"}, with(dir, place(next, next, root, "n"))},
		{api.Call{Kind: api.CMkdir, Path: "/d/e/n", N: 0o711, Time: -2.5}, with(dir, touch(d), touch(e), place(next, next, e, "n"))},
		{api.Call{Kind: api.CMkdir, Path: "/d/.lost", N: 0o711, Time: -2.5}, with(dir, touch(d), place(next, next, d, ".lost"))},
		{api.Call{Kind: api.CMkdir, Path: "/c5-0", N: 0o711, Time: -2.5}, with(dir, place(next, next, root, "c5-0"))},
		{api.Call{Kind: api.CCreate, Path: "/ghost/n", N: 0o777, Time: math.Copysign(0, -1), To: "t", Data: "d"}, with(file, touch(o), place(next, next, o, "n"))},
		{api.Call{Kind: api.CCreate, Path: "/gone", N: 0o777}, with(file, place(next, next, root, "gone"))},
		{api.Call{Kind: api.CCreate, Path: "/.lost/c9-0/m/n", N: 0o777}, with(file, touch(m), touch(y), place(next, next, m, "n"))},
		{api.Call{Kind: api.CSymlink, Path: "/.lost/c5-0/n", To: "f\x00/../", Time: math.Inf(1)}, with(sym, touch(x), place(next, next, x, "n"))},
		{api.Call{Kind: api.CLink, Path: "/d/f2", To: "/n", N: -1, Time: nan}, links(place(next, f, root, "n"))},
		{api.Call{Kind: api.CLink, Path: "/s", To: "/d/e/n"}, links(touch(d), touch(e), place(next, s, e, "n"))},
		{api.Call{Kind: api.CLink, Path: "/.lost/c7-1", To: "/empty/n"}, links(touch(w), place(next, k, w, "n"))},
		{api.Call{Kind: api.CUnlink, Path: "/f", To: "/"}, links(kill(f))},
		{api.Call{Kind: api.CUnlink, Path: "/d/e/k"}, links(kill(k2))},
		{api.Call{Kind: api.CUnlink, Path: "/s"}, links(kill(s))},
		{api.Call{Kind: api.CUnlink, Path: "/.lost/c7-1"}, links(kill(k))},
		{api.Call{Kind: api.CRmdir, Path: "/empty"}, links(kill(w))},
	})
}

// P13.1, P13.2: what it writes that something is placed elsewhere, as a whole.
func TestWritesRename(t *testing.T) {
	writes(t, []written{
		{api.Call{Kind: api.CRename, Path: "/f", To: "/n"}, links(place(f, f, root, "n"))},
		{api.Call{Kind: api.CRename, Path: "/f", To: "/d/e/n"}, links(touch(d), touch(e), place(f, f, e, "n"))},
		{api.Call{Kind: api.CRename, Path: "/d/f2", To: "/f"}, links(kill(f), place(f2, f, root, "f"))},
		{api.Call{Kind: api.CRename, Path: "/d/f2", To: "/d/f3"}, links(touch(d), place(f2, f, d, "f3"))},
		{api.Call{Kind: api.CRename, Path: "/d/e/k", To: "/s"}, links(kill(s), place(k2, k2, root, "s"))},
		{api.Call{Kind: api.CRename, Path: "/s", To: "/d/e/k"}, links(touch(d), touch(e), place(s, s, e, "k"), kill(k2))},
		{api.Call{Kind: api.CRename, Path: "/d", To: "/empty/n"}, links(place(d, d, w, "n"), touch(w))},
		{api.Call{Kind: api.CRename, Path: "/d/e", To: "/empty"}, links(place(e, e, root, "empty"), kill(w))},
		{api.Call{Kind: api.CRename, Path: "/empty", To: "/d/n"}, links(touch(d), place(w, w, d, "n"))},
		{api.Call{Kind: api.CRename, Path: "/ghost", To: "/d/e/n"}, links(touch(d), touch(e), place(o, o, e, "n"))},
		{api.Call{Kind: api.CRename, Path: "/.lost/c5-0", To: "/d/x"}, links(touch(d), place(x, x, d, "x"))},
		{api.Call{Kind: api.CRename, Path: "/.lost/c7-1", To: "/d/e/k"}, links(touch(d), touch(e), place(k, k, e, "k"), kill(k2))},
		{api.Call{Kind: api.CRename, Path: "/.lost/c9-0/m", To: "/.lost/c5-0/m"}, links(touch(x), place(m, m, x, "m"))},
		{api.Call{Kind: api.CRename, Path: "/d/f2", To: "/.lost/c9-0/m/n"}, links(touch(m), touch(y), place(f2, f, m, "n"))},
		{api.Call{Kind: api.CRename, Path: "/d", To: "/.lost/c5-0/d"}, links(place(d, d, x, "d"), touch(x))},
	})
}

// P13.1, P13.2: what changes of bytes write, as a whole. The file has a piece, and six bytes of another one.
func TestWritesBytes(t *testing.T) {
	zeros := strings.Repeat("\x00", api.Chunk)
	file := func(n int, l ...api.Piece) api.Inode {
		i := api.Inode{Id: f, Pieces: l}
		if n >= 0 {
			i.Size = size(n)
		}
		return i
	}
	var far, all []api.Piece
	for i := range 16 {
		all = append(all, piece(i, strings.Repeat("x", 64)))
		if i > 0 {
			far = append(far, piece(i, zeros))
		}
	}
	far[0].Data = "uvwxyz" + zeros[6:]
	far[14].Data = zeros[1:] + "!"
	writes(t, []written{
		{api.Call{Kind: api.CWrite, Path: "/f", Data: "A", N: -1, To: "t", Time: nan}, with(file(-1, piece(0, "A"+text[1:])), touch(f))},
		{api.Call{Kind: api.CWrite, Path: "/d/f2", Off: 3, Data: text[3:4]}, with(file(-1, piece(0, text)), touch(d), touch(f2))},
		{api.Call{Kind: api.CWrite, Path: "/f", Off: 62, Data: "ABCD"}, with(file(-1, piece(0, text[:62]+"AB"), piece(1, "CDwxyz")), touch(f))},
		{api.Call{Kind: api.CWrite, Path: "/f", Off: 63, Data: "A"}, with(file(-1, piece(0, text[:63]+"A")), touch(f))},
		{api.Call{Kind: api.CWrite, Path: "/f", Off: 64, Data: "ABCDEF"}, with(file(-1, piece(1, "ABCDEF")), touch(f))},
		{api.Call{Kind: api.CWrite, Path: "/f", Off: 64, Data: "ABCDEFG"}, with(file(71, piece(1, "ABCDEFG")), touch(f))},
		{api.Call{Kind: api.CWrite, Path: "/f", Off: 70, Data: zeros[:1]}, with(file(71, piece(1, "uvwxyz\x00")), touch(f))},
		{api.Call{Kind: api.CWrite, Path: "/f", Off: 130, Data: "A"}, with(file(131, piece(1, "uvwxyz"+zeros[6:]), piece(2, "\x00\x00A")), touch(f))},
		{api.Call{Kind: api.CWrite, Path: "/f", Off: 1023, Data: "!"}, with(file(1024, far...), touch(f))},
		{api.Call{Kind: api.CWrite, Path: "/f", Data: strings.Repeat("x", 1024)}, with(file(1024, all...), touch(f))},
		{api.Call{Kind: api.CTruncate, Path: "/f", N: 70, Off: -1, Data: "d", Time: nan}, with(file(70), touch(f))},
		{api.Call{Kind: api.CTruncate, Path: "/f", N: 69}, with(file(69, piece(1, "uvwxy")), touch(f))},
		{api.Call{Kind: api.CTruncate, Path: "/f", N: 64}, with(file(64, piece(1, "")), touch(f))},
		{api.Call{Kind: api.CTruncate, Path: "/d/f2", N: 63}, with(file(63, piece(0, text[:63]), piece(1, "")), touch(d), touch(f2))},
		{api.Call{Kind: api.CTruncate, Path: "/f", N: 0}, with(file(0, piece(0, ""), piece(1, "")), touch(f))},
		{api.Call{Kind: api.CTruncate, Path: "/f", N: 71}, with(file(71, piece(1, "uvwxyz\x00")), touch(f))},
		{api.Call{Kind: api.CTruncate, Path: "/f", N: 128}, with(file(128, piece(1, "uvwxyz"+zeros[6:])), touch(f))},
		{api.Call{Kind: api.CTruncate, Path: "/f", N: 129}, with(file(129, piece(1, "uvwxyz"+zeros[6:]), piece(2, "\x00")), touch(f))},
	})
}

// P13.1, P13.2: what other changes write, as a whole.
func TestWritesAttrs(t *testing.T) {
	time, _ := instant.Of(7)
	attr := func(id api.Stamp, mode int, time uint64) api.Inode {
		return api.Inode{Id: id, Attr: api.Attr{At: next, Mode: mode, Time: time}}
	}
	xattr := func(id api.Stamp, x api.Xattr) api.Inode {
		x.At = next
		return api.Inode{Id: id, Xattrs: []api.Xattr{x}}
	}
	writes(t, []written{
		{api.Call{Kind: api.CChmod, Path: "/d/e", N: 0o511, Time: nan}, with(attr(e, 0o511, zero+1), touch(d), touch(e))},
		{api.Call{Kind: api.CChmod, Path: "/", N: 0}, with(attr(root, 0, zero))},
		{api.Call{Kind: api.CChmod, Path: "/s", N: 0o777}, with(attr(s, 0o777, zero+1), touch(s))},
		{api.Call{Kind: api.CUtime, Path: "/d/f2", N: -1, Time: 7}, with(attr(f, 0o750, time), touch(d), touch(f2))},
		{api.Call{Kind: api.CUtime, Path: "/.lost/c5-0/g", Time: math.Inf(-1)}, with(attr(g, 0o750, instant.First()), touch(x), touch(g))},
		{api.Call{Kind: api.CUtime, Path: "/", Time: 7}, with(attr(root, 0o755, time))},
		{api.Call{Kind: api.CSetx, Path: "/f", To: "a", Data: "1"}, with(xattr(f, api.Xattr{Name: "a", Val: "1"}), touch(f))},
		{api.Call{Kind: api.CSetx, Path: "/d/f2", To: "b", N: -1, Off: -1, Time: nan}, with(xattr(f, api.Xattr{Name: "b"}), touch(d), touch(f2))},
		{api.Call{Kind: api.CSetx, Path: "/", To: strings.Repeat("n", 16), Data: strings.Repeat("\x00", 32)}, with(xattr(root, api.Xattr{Name: strings.Repeat("n", 16), Val: strings.Repeat("\x00", 32)}))},
		{api.Call{Kind: api.CDelx, Path: "/f", To: "a", Data: strings.Repeat("d", 33)}, with(xattr(f, api.Xattr{Name: "a", Gone: true}), touch(f))},
		{api.Call{Kind: api.CDelx, Path: "/f", To: "z"}, with(xattr(f, api.Xattr{Name: "z", Gone: true}), touch(f))},
	})
}

// written is a call, and what its event writes beside Seen.
type written struct {
	c    api.Call
	want api.State
}

func writes(t *testing.T, l []written) {
	t.Helper()
	for _, c := range l {
		c.want.Seen = only
		if ans, out := do(t, town(), c.c); !calls.Same(ans, api.Answer{}) || !facts.Same(out, c.want) {
			t.Errorf("%v: %v\n got %v\nwant %v", c.c, ans, out, c.want)
		}
	}
}

// P13.1, P13.2: where it is said that nothing is written all is well, be there a next event or not.
func TestWritesNothing(t *testing.T) {
	v := town()
	for _, c := range []api.Call{
		{Kind: api.CRename, Path: "/f", To: "/f"},
		{Kind: api.CRename, Path: "/d", To: "/d"},
		{Kind: api.CRename, Path: "/d/e/k", To: "/d/e/k"},
		{Kind: api.CRename, Path: "/.lost/c5-0/g", To: "/.lost/c5-0/g"},
		{Kind: api.CWrite, Path: "/f"},
		{Kind: api.CWrite, Path: "/f", Off: 1024},
	} {
		for _, who := range []int{0, 7, 8, -1, math.MaxInt} {
			if ans, out := calls.Do(v, who, c); !calls.Same(ans, api.Answer{}) || !facts.Same(out, api.State{}) {
				t.Errorf("%v by %d: %v, %v", c, who, ans, out)
			}
		}
		v.Seen[7] = most
	}
}

// P13.1, P13.7: the next event's error is the last one.
func TestNext(t *testing.T) {
	v := town()
	change, wrong := api.Call{Kind: api.CChmod, Path: "/f"}, api.Call{Kind: api.CChmod, Path: "/f", N: 512}
	question := api.Call{Kind: api.CReadlink, Path: "/s"}
	for _, c := range []struct {
		who  int
		c    api.Call
		seen int
		want api.Errno
	}{
		{0, change, 50, api.OK}, {7, change, 50, api.OK}, {8, change, 50, api.EINVAL}, {-1, change, 50, api.EINVAL},
		{math.MinInt, change, 50, api.EINVAL}, {math.MaxInt, change, 50, api.EINVAL},
		{3, change, most - 1, api.OK}, {3, change, most, api.EOVERFLOW}, {8, change, most, api.EINVAL},
		{8, wrong, most, api.EINVAL}, {3, wrong, most, api.EINVAL}, {8, question, most, api.OK},
		{8, api.Call{Kind: api.CMkdir, Path: "/f"}, most, api.EEXIST},
		{8, api.Call{Kind: api.CCreate, Path: "/n"}, most, api.EINVAL}, {3, api.Call{Kind: api.CSymlink, Path: "/n", To: "t"}, most, api.EOVERFLOW},
		{3, api.Call{Kind: api.CLink, Path: "/f", To: "/n"}, most, api.EOVERFLOW}, {3, api.Call{Kind: api.CUnlink, Path: "/f"}, most, api.EOVERFLOW},
		{3, api.Call{Kind: api.CRmdir, Path: "/empty"}, most, api.EOVERFLOW}, {3, api.Call{Kind: api.CRename, Path: "/f", To: "/n"}, most, api.EOVERFLOW},
		{3, api.Call{Kind: api.CWrite, Path: "/f", Data: "d"}, most, api.EOVERFLOW}, {3, api.Call{Kind: api.CTruncate, Path: "/f"}, most, api.EOVERFLOW},
		{3, api.Call{Kind: api.CSetx, Path: "/f", To: "n"}, most, api.EOVERFLOW}, {3, api.Call{Kind: api.CDelx, Path: "/f", To: "a"}, most, api.EOVERFLOW},
		{3, api.Call{Kind: api.CRename, Path: "/f", To: "/d"}, most, api.EISDIR},
		{8, api.Call{Kind: api.CUnlink, Path: "/none"}, most, api.ENOENT},
	} {
		v.Seen[5] = c.seen
		ans, out := calls.Do(v, c.who, c.c)
		if ans.Err != c.want {
			t.Errorf("%v by %d: %v", c.c, c.who, ans)
		}
		if c.want != api.OK && (!calls.Same(ans, api.Answer{Err: c.want}) || !facts.Same(out, api.State{})) {
			t.Errorf("%v by %d: %v, %v", c.c, c.who, ans, out)
		}
	}
	v.Seen[5] = most - 1
	if _, out := calls.Do(v, 7, change); out.Seen != (api.Vector{7: most}) || out.Nodes[0].Attr.At != stamp(most, 7) {
		t.Error(out)
	}
}

// P13.1: nothing is asked of a state that may not be.
func TestMayNot(t *testing.T) {
	bad := town()
	bad.Links[0].Name = ""
	for kind := -1; kind <= 21; kind++ {
		for _, v := range []api.State{{}, bad} {
			for _, path := range []string{"/", "", "/f"} {
				c := api.Call{Kind: kind, Path: path, To: "/n"}
				if ans, out := calls.Do(v, 99, c); !calls.Same(ans, api.Answer{Err: api.EFORM}) || !facts.Same(out, api.State{}) {
					t.Errorf("%v: %v, %v", c, ans, out)
				}
			}
		}
	}
}

// P13.2: of other kinds nothing is asked.
func TestOtherKinds(t *testing.T) {
	for _, kind := range []int{0, -1, 20, 21, math.MinInt, math.MaxInt} {
		for _, path := range []string{"/f", "", "/none", "/" + strings.Repeat("n", 120)} {
			if ans, out := do(t, town(), api.Call{Kind: kind, Path: path}); !calls.Same(ans, api.Answer{Err: api.EINVAL}) || !facts.Same(out, api.State{}) {
				t.Errorf("%d of %q: %v, %v", kind, path, ans, out)
			}
		}
	}
}
