package calls

import (
	"slices"

	"crannog/api"
	"crannog/instant"
	"crannog/view"
)

// answer is a question's, by its kind.
func (t *task) answer() (ans api.Answer) {
	switch t.Kind {
	case api.CRead:
		ans.Data = t.read()
	case api.CList:
		ans.Names = t.list()
	case api.CReadlink:
		w := t.path()
		ask(t.kind(w) == api.Sym, api.EINVAL)
		ans.Data = t.inode(w).Text
	case api.CStat:
		ans.Stat = t.stat()
	case api.CGetx:
		ans.Data = t.askXattr(t.inode(t.own()).Xattrs).Val
	case api.CListx:
		ans.Names = t.xattrs()
	default:
		refuse(api.EINVAL)
	}
	return ans
}

// read is bytes of a file.
func (t *task) read() string {
	w := t.file()
	ask(t.Off >= 0 && t.N >= 0, api.EINVAL)
	b := Bytes(t.inode(w))
	b = b[min(t.Off, len(b)):]
	return b[:min(t.N, len(b))]
}

// list is what shows in a directory, by names.
func (t *task) list() []string {
	w := t.path()
	ask(t.kind(w) == api.Dir, api.ENOTDIR)
	var l []string
	if w.isRoot() {
		l = append(l, api.Lost)
	}
	for _, k := range view.In(t.shown, w.node()) {
		l = append(l, k.Name)
	}
	slices.Sort(l)
	return l
}

// stat is what is told of an inode.
func (t *task) stat() api.Stat {
	w := t.path()
	if w.isLost() {
		zero, _ := instant.Of(0)
		return api.Stat{Node: view.Lost(), Kind: api.Dir, Time: zero, Links: 1}
	}
	n := t.inode(w)
	st := api.Stat{Node: n.Id, Kind: n.Kind, Mode: n.Attr.Mode, Time: n.Attr.Time, Links: view.Links(t.shown, n.Id)}
	st.Size = len(Bytes(n)) + len(n.Text) // no inode has both
	if w.isRoot() {
		st.Links = 1
	}
	return st
}

// xattrs is the names of those that are there.
func (t *task) xattrs() []string {
	var l []string
	for _, x := range t.inode(t.own()).Xattrs {
		if !x.Gone {
			l = append(l, x.Name)
		}
	}
	return l
}
