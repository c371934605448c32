package calls_test

import (
	"math"
	"slices"
	"strings"

	"crannog/api"
	"crannog/calls"
	"crannog/facts"
	"crannog/names"
	"crannog/view"
)

// What follows is the document's words once more: slow, and in another way, by whole paths.

// thing is what a path leads to: its inode, and the links on the way, its own the last.
type thing struct {
	node  api.Stamp
	kind  int
	links []api.Stamp
}

// book is a state, what its paths lead to, and the call that is asked.
type book struct {
	api.State
	api.Call
	who   int
	shown []api.Shown
	at    map[string]thing
}

func open(v api.State, who int, c api.Call) *book {
	b := &book{State: v, Call: c, who: who, shown: view.Shown(v), at: map[string]thing{"/": {kind: api.Dir}}}
	b.at["/.lost"] = thing{node: lost, kind: api.Dir}
	b.write("", root, nil)
	b.write("/.lost", lost, nil)
	return b
}

// write notes all that shows below a directory.
func (b *book) write(path string, dir api.Stamp, way []api.Stamp) {
	for _, k := range b.shown {
		if k.Parent == dir {
			n, _ := facts.Node(b.State, k.Node)
			on := append(slices.Clone(way), k.Link)
			b.at[path+"/"+k.Name] = thing{node: k.Node, kind: n.Kind, links: on}
			b.write(path+"/"+k.Name, k.Node, on)
		}
	}
}

// find is what a path leads to.
func (b *book) find(path string) (thing, api.Errno) {
	if _, err := names.Split(path); err != api.OK {
		return thing{}, err
	}
	for i := 1; i < len(path); i++ {
		if path[i] != '/' {
			continue
		}
		on, ok := b.at[path[:i]]
		switch {
		case !ok:
			return thing{}, api.ENOENT
		case on.kind != api.Dir:
			return thing{}, api.ENOTDIR
		}
	}
	on, ok := b.at[path]
	if !ok {
		return thing{}, api.ENOENT
	}
	return on, api.OK
}

// spare is the directory of a spare place, the name, and what shows there.
func (b *book) spare(path string) (dir thing, name string, old thing, taken bool, err api.Errno) {
	if _, err = names.Split(path); err != api.OK {
		return
	}
	i := strings.LastIndexByte(path, '/')
	above, name := path[:i], path[i+1:]
	if above == "" {
		above = "/"
	}
	if dir, err = b.find(above); path == "/" {
		err = api.EEXIST
	}
	switch {
	case err != api.OK:
	case dir.kind != api.Dir:
		err = api.ENOTDIR
	case dir.node == lost || path == "/.lost":
		err = api.EPERM
	}
	old, taken = b.at[path]
	return
}

// holds tells whether something that shows is placed in a directory.
func (b *book) holds(dir api.Stamp) bool {
	for _, l := range b.Links {
		if l.Parent == dir && slices.ContainsFunc(b.shown, func(k api.Shown) bool { return k.Link == l.Id }) {
			return true
		}
	}
	return false
}

// deed is what an event writes.
type deed struct {
	nodes []api.Inode
	links map[api.Stamp]api.Link
}

func (d *deed) link(l api.Link) {
	if d.links == nil {
		d.links = map[api.Stamp]api.Link{}
	}
	d.links[l.Id] = l
}

// want is what Do answers.
func want(v api.State, who int, c api.Call) (api.Answer, api.State) {
	if err := facts.Check(v); err != api.OK {
		return api.Answer{Err: err}, api.State{}
	}
	b := open(v, who, c)
	id := stamp(1+slices.Max(v.Seen[:]), who)
	ans, d := api.Answer{}, deed{}
	switch {
	case c.Kind == api.CMkdir || c.Kind == api.CCreate || c.Kind == api.CSymlink:
		ans.Err = b.make(id, &d)
	case c.Kind == api.CLink:
		ans.Err = b.link(id, &d)
	case c.Kind == api.CUnlink || c.Kind == api.CRmdir:
		ans.Err = b.unlink(id, &d)
	case c.Kind == api.CRename:
		ans.Err = b.rename(id, &d)
	case c.Kind == api.CWrite || c.Kind == api.CTruncate:
		ans.Err = b.bytes(id, &d)
	case c.Kind >= api.CChmod && c.Kind <= api.CDelx:
		ans.Err = b.attrs(id, &d)
	case c.Kind >= api.CRead && c.Kind <= api.CListx:
		ans = b.question()
	default:
		ans.Err = api.EINVAL
	}
	return told(ans, b, id, d)
}

// told is an answer, and what was done, as a state; the next event's error is the last one.
func told(ans api.Answer, b *book, id api.Stamp, d deed) (api.Answer, api.State) {
	if ans.Err != api.OK {
		return api.Answer{Err: ans.Err}, api.State{}
	}
	if len(d.nodes)+len(d.links) == 0 {
		return ans, api.State{}
	}
	if b.who < 0 || b.who > 7 {
		return api.Answer{Err: api.EINVAL}, api.State{}
	}
	if id.Time > most {
		return api.Answer{Err: api.EOVERFLOW}, api.State{}
	}
	s := api.State{Seen: alone(id), Nodes: d.nodes}
	knew := b.Seen
	knew[b.who] = id.Time
	for _, l := range d.links {
		if l.Dead[0] != 0 {
			l.Dead = knew
		} else {
			l.Alive = s.Seen
		}
		s.Links = append(s.Links, l)
	}
	slices.SortFunc(s.Links, func(a, b api.Link) int {
		if a.Id.Time != b.Id.Time {
			return a.Id.Time - b.Id.Time
		}
		return a.Id.Who - b.Id.Who
	})
	return ans, s
}

// touch, kill: the vectors are put in later.
func (d *deed) touch(l []api.Stamp) {
	for _, id := range l {
		d.link(api.Link{Id: id})
	}
}

func (d *deed) kill(id api.Stamp) { d.link(api.Link{Id: id, Dead: api.Vector{1}}) }

// bits is a time's; false: it is none.
func bits(x float64) (uint64, bool) {
	switch u := math.Float64bits(x); {
	case x == 0:
		return 1 << 63, true
	case x > 0:
		return u + 1<<63, true
	case x < 0:
		return math.MaxUint64 - u, true
	}
	return 0, false
}

func (b *book) make(id api.Stamp, d *deed) api.Errno {
	dir, name, _, taken, err := b.spare(b.Path)
	time, good := bits(b.Time)
	sym := b.Kind == api.CSymlink
	switch {
	case err != api.OK:
		return err
	case taken:
		return api.EEXIST
	case !good || b.N < 0 || b.N > 511 || sym && b.To == "":
		return api.EINVAL
	case sym && len(b.To) > 120:
		return api.ENAMETOOLONG
	case len(b.Nodes) >= 60 || len(b.Links) >= 80:
		return api.ENOSPC
	}
	n := api.Inode{Id: id, Kind: map[int]int{api.CMkdir: api.Dir, api.CCreate: api.File, api.CSymlink: api.Sym}[b.Kind]}
	n.Attr = api.Attr{At: id, Mode: b.N, Time: time}
	if sym {
		n.Text = b.To
	}
	if b.Kind == api.CCreate {
		n.Size.At = id
	}
	d.nodes = []api.Inode{n}
	d.touch(dir.links)
	d.link(api.Link{Id: id, Node: id, At: id, Parent: dir.node, Name: name})
	return api.OK
}

func (b *book) link(id api.Stamp, d *deed) api.Errno {
	from, err := b.find(b.Path)
	if err != api.OK {
		return err
	}
	if from.kind == api.Dir {
		return api.EPERM
	}
	dir, name, _, taken, err := b.spare(b.To)
	switch {
	case err != api.OK:
		return err
	case taken:
		return api.EEXIST
	case len(b.Links) >= 80 || len(b.Nodes) > 60:
		return api.ENOSPC
	}
	d.touch(dir.links)
	d.link(api.Link{Id: id, Node: from.node, At: id, Parent: dir.node, Name: name})
	return api.OK
}

func (b *book) unlink(id api.Stamp, d *deed) api.Errno {
	on, err := b.find(b.Path)
	switch {
	case err != api.OK:
		return err
	case b.Path == "/" || b.Path == "/.lost":
		return api.EBUSY
	case b.Kind == api.CUnlink && on.kind == api.Dir:
		return api.EISDIR
	case b.Kind == api.CRmdir && on.kind != api.Dir:
		return api.ENOTDIR
	case b.Kind == api.CRmdir && b.holds(on.node):
		return api.ENOTEMPTY
	}
	d.kill(on.links[len(on.links)-1])
	return api.OK
}

func (b *book) rename(id api.Stamp, d *deed) api.Errno {
	on, err := b.find(b.Path)
	if err != api.OK {
		return err
	}
	if b.Path == "/" || b.Path == "/.lost" {
		return api.EBUSY
	}
	dir, name, old, taken, err := b.spare(b.To)
	isDir := on.kind == api.Dir
	switch {
	case err != api.OK:
		return err
	case isDir && strings.HasPrefix(b.To, b.Path+"/"):
		return api.EINVAL
	case b.To == b.Path:
		return api.OK
	case taken && old.kind == api.Dir && !isDir:
		return api.EISDIR
	case taken && old.kind != api.Dir && isDir:
		return api.ENOTDIR
	case taken && isDir && b.holds(old.node):
		return api.ENOTEMPTY
	}
	d.touch(dir.links)
	d.link(api.Link{Id: on.links[len(on.links)-1], Node: on.node, At: id, Parent: dir.node, Name: name})
	if taken {
		d.kill(old.links[len(old.links)-1])
	}
	return api.OK
}

// body is a file's bytes, one by one.
func body(n api.Inode) []byte {
	b := []byte{}
	for i := range n.Size.N {
		c := byte(0)
		for _, p := range n.Pieces {
			if p.Index == i/64 && i%64 < len(p.Data) {
				c = p.Data[i%64]
			}
		}
		b = append(b, c)
	}
	return b
}

func (b *book) bytes(id api.Stamp, d *deed) api.Errno {
	on, err := b.find(b.Path)
	end := b.Off + len(b.Data)
	switch write := b.Kind == api.CWrite; {
	case err != api.OK:
		return err
	case on.kind == api.Dir:
		return api.EISDIR
	case on.kind != api.File || write && b.Off < 0 || !write && b.N < 0:
		return api.EINVAL
	case write && (b.Off > 1024 || end > 1024) || !write && b.N > 1024:
		return api.EFBIG
	case write && b.Data == "":
		return api.OK
	}
	n, _ := facts.Node(b.State, on.node)
	was := body(n)
	is := slices.Clone(was)
	if b.Kind == api.CTruncate {
		b.Off, b.Data, end = 0, "", b.N
		is = is[:min(len(is), b.N)]
	}
	for len(is) < end {
		is = append(is, 0)
	}
	copy(is[b.Off:], b.Data)
	out := api.Inode{Id: on.node}
	if len(is) > len(was) || b.Kind == api.CTruncate {
		out.Size = api.Size{At: id, N: len(is)}
	}
	for i := range 16 {
		x, y := "", ""
		lies := false
		for j := 64 * i; j < 64*i+64; j++ {
			if j < len(was) {
				x += string(was[j : j+1])
			}
			if j < len(is) {
				y += string(is[j : j+1])
			}
			lies = lies || j >= b.Off && j < b.Off+len(b.Data)
		}
		if lies || x != y {
			out.Pieces = append(out.Pieces, api.Piece{Index: i, At: id, Data: y})
		}
	}
	d.nodes = []api.Inode{out}
	d.touch(on.links)
	return api.OK
}

func (b *book) attrs(id api.Stamp, d *deed) api.Errno {
	on, err := b.find(b.Path)
	if err != api.OK {
		return err
	}
	n, _ := facts.Node(b.State, on.node)
	out := api.Inode{Id: on.node}
	time, good := bits(b.Time)
	i := slices.IndexFunc(n.Xattrs, func(x api.Xattr) bool { return x.Name == b.To })
	set := b.Kind == api.CSetx
	if b.Kind == api.CChmod || b.Kind == api.CUtime {
		good = good && b.Kind == api.CUtime || b.Kind == api.CChmod && b.N >= 0 && b.N <= 511
		out.Attr = api.Attr{At: id, Mode: b.N, Time: n.Attr.Time}
		if b.Kind == api.CUtime {
			out.Attr = api.Attr{At: id, Mode: n.Attr.Mode, Time: time}
		}
		i, set = 0, true
	} else if good = true; set {
		out.Xattrs = []api.Xattr{{Name: b.To, At: id, Val: b.Data}}
	} else {
		out.Xattrs = []api.Xattr{{Name: b.To, At: id, Gone: true}}
	}
	switch {
	case on.node == lost:
		return api.EPERM
	case !good:
		return api.EINVAL
	case len(out.Xattrs) > 0 && names.Good(b.To) != api.OK:
		return names.Good(b.To)
	case len(out.Xattrs) > 0 && set && len(b.Data) > 32:
		return api.EFBIG
	case set && i < 0 && len(n.Xattrs) >= 4:
		return api.ENOSPC
	case !set && (i < 0 || n.Xattrs[i].Gone):
		return api.ENODATA
	}
	d.nodes = []api.Inode{out}
	d.touch(on.links)
	return api.OK
}

func (b *book) question() (ans api.Answer) {
	on, err := b.find(b.Path)
	n, _ := facts.Node(b.State, on.node)
	switch {
	case err != api.OK:
		ans.Err = err
	case b.Kind == api.CRead && on.kind == api.Dir:
		ans.Err = api.EISDIR
	case b.Kind == api.CRead && (on.kind != api.File || b.Off < 0 || b.N < 0):
		ans.Err = api.EINVAL
	case b.Kind == api.CRead:
		for i, c := range body(n) {
			if i >= b.Off && i-b.Off < b.N {
				ans.Data += string([]byte{c})
			}
		}
	case b.Kind == api.CList && on.kind != api.Dir:
		ans.Err = api.ENOTDIR
	case b.Kind == api.CList:
		for path := range b.at {
			if i := strings.LastIndexByte(path, '/'); path != "/" && (path[:i] == b.Path || i == 0 && b.Path == "/") {
				ans.Names = append(ans.Names, path[i+1:])
			}
		}
		slices.Sort(ans.Names)
	case b.Kind == api.CReadlink && on.kind != api.Sym:
		ans.Err = api.EINVAL
	case b.Kind == api.CReadlink:
		ans.Data = n.Text
	case b.Kind == api.CStat:
		ans.Stat = b.stat(on, n)
	case on.node == lost:
		ans.Err = api.EPERM
	default:
		ans = b.xattrs(n)
	}
	return ans
}

func (b *book) stat(on thing, n api.Inode) api.Stat {
	st := api.Stat{Node: on.node, Kind: on.kind, Mode: n.Attr.Mode, Time: n.Attr.Time, Size: n.Size.N + len(n.Text)}
	for _, other := range b.at {
		if other.node == on.node {
			st.Links++
		}
	}
	if on.node == lost {
		st.Time = zero
	}
	return st
}

func (b *book) xattrs(n api.Inode) (ans api.Answer) {
	if b.Kind == api.CGetx {
		ans.Err = api.ENODATA
	}
	for _, x := range n.Xattrs {
		switch {
		case x.Gone:
		case b.Kind == api.CListx:
			ans.Names = append(ans.Names, x.Name)
		case x.Name == b.To:
			ans = api.Answer{Data: x.Val}
		}
	}
	return ans
}

// same tells whether two answers, and what was written, are.
func same(a, b api.Answer, x, y api.State) bool { return calls.Same(a, b) && facts.Same(x, y) }
