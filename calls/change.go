package calls

import (
	"slices"

	"crannog/api"
	"crannog/instant"
	"crannog/names"
)

const maxMode = 0o777

// mode is the one that the call has.
func (t *task) mode() int {
	ask(t.N >= 0 && t.N <= maxMode, api.EINVAL)
	return t.N
}

// time is the one that the call has.
func (t *task) time() uint64 {
	k, err := instant.Of(t.Time)
	ask(err == api.OK, api.EINVAL)
	return k
}

// create makes an inode, and a link of it.
func (t *task) create(kind int) api.State {
	p := t.spare(t.Path)
	ask(!p.taken(), api.EEXIST)
	n := api.Inode{Kind: kind, Attr: api.Attr{Time: t.time(), Mode: t.mode()}}
	if kind == api.Sym {
		ask(t.To != "", api.EINVAL)
		ask(len(t.To) <= api.MaxPath, api.ENAMETOOLONG)
		n.Text = t.To
	}
	ask(len(t.Nodes) < api.MaxNodes && len(t.Links) < api.MaxLinks, api.ENOSPC)
	e := t.event()
	n.Id, n.Attr.At = e.id, e.id
	if kind == api.File {
		n.Size.At = e.id
	}
	e.Nodes = append(e.Nodes, n)
	e.put(e.id, e.id, p)
	return e.written()
}

// link makes one more of an inode.
func (t *task) link() api.State {
	w := t.path()
	ask(t.kind(w) != api.Dir, api.EPERM)
	p := t.spare(t.To)
	ask(!p.taken(), api.EEXIST)
	// Above so many inodes nobody makes links, or those of all replicas might be more than may be.
	ask(len(t.Links) < api.MaxLinks && len(t.Nodes) <= api.MaxNodes, api.ENOSPC)
	e := t.event()
	e.put(e.id, w.node(), p)
	return e.written()
}

// unlink takes a link away: that of a directory, if nothing holds it.
func (t *task) unlink() api.State {
	w := t.moving()
	isDir := t.kind(w) == api.Dir
	if t.Kind == api.CUnlink {
		ask(!isDir, api.EISDIR)
	} else {
		ask(isDir, api.ENOTDIR)
		ask(t.isEmpty(w.node()), api.ENOTEMPTY)
	}
	e := t.event()
	e.kill(w.end().Link)
	return e.written()
}

// rename places a link elsewhere; what has that place is taken away.
func (t *task) rename() api.State {
	w := t.moving()
	k := w.end()
	p := t.spare(t.To)
	ask(!p.dir.over(k.Node), api.EINVAL) // just directories have something below them
	if p.owner.Link == k.Link {
		return api.State{}
	}
	if p.taken() {
		t.askOver(k.Node, p.owner.Node)
	}
	e := t.event()
	e.put(k.Link, k.Node, p)
	if p.taken() {
		e.kill(p.owner.Link)
	}
	return e.written()
}

// askOver asks whether something can come in place of something else.
func (t *task) askOver(node, old api.Stamp) {
	ask(!t.isDir(old) || t.isDir(node), api.EISDIR)
	ask(t.isDir(old) || !t.isDir(node), api.ENOTDIR)
	ask(t.isEmpty(old), api.ENOTEMPTY)
}

// write puts bytes into a file.
func (t *task) write() api.State {
	w := t.file()
	ask(t.Off >= 0, api.EINVAL)
	ask(t.Off <= api.MaxSize-len(t.Data), api.EFBIG)
	if t.Data == "" {
		return api.State{}
	}
	was, end := Bytes(t.inode(w)), t.Off+len(t.Data)
	is := make([]byte, max(len(was), end))
	copy(is, was)
	copy(is[t.Off:], t.Data)
	e := t.event()
	n := api.Inode{Pieces: e.pieces(was, string(is), t.Off, end)}
	if len(is) > len(was) {
		n.Size = api.Size{At: e.id, N: len(is)}
	}
	e.change(w, n)
	return e.written()
}

// truncate cuts a file, or makes it longer.
func (t *task) truncate() api.State {
	w := t.file()
	ask(t.N >= 0, api.EINVAL)
	ask(t.N <= api.MaxSize, api.EFBIG)
	was, is := Bytes(t.inode(w)), make([]byte, t.N)
	copy(is, was)
	e := t.event()
	e.change(w, api.Inode{Size: api.Size{At: e.id, N: t.N}, Pieces: e.pieces(was, string(is), 0, 0)})
	return e.written()
}

// attr sets a mode, or a time.
func (t *task) attr() api.State {
	w := t.own()
	a := t.inode(w).Attr
	if t.Kind == api.CChmod {
		a.Mode = t.mode()
	} else {
		a.Time = t.time()
	}
	e := t.event()
	a.At = e.id
	e.change(w, api.Inode{Attr: a})
	return e.written()
}

// xattr sets an xattr, or takes it away.
func (t *task) xattr() api.State {
	w := t.own()
	l := t.inode(w).Xattrs
	refuse(names.Good(t.To))
	x := api.Xattr{Name: t.To}
	if t.Kind == api.CSetx {
		ask(len(t.Data) <= api.MaxXval, api.EFBIG)
		listed := slices.ContainsFunc(l, func(x api.Xattr) bool { return x.Name == t.To }) // one that is gone, too
		ask(listed || len(l) < api.MaxXattrs, api.ENOSPC)
		x.Val = t.Data
	} else {
		t.askXattr(l)
		x.Gone = true
	}
	e := t.event()
	x.At = e.id
	e.change(w, api.Inode{Xattrs: []api.Xattr{x}})
	return e.written()
}

// askXattr is the xattr that the call is about: it must be there.
func (t *task) askXattr(l []api.Xattr) api.Xattr {
	i := slices.IndexFunc(l, func(x api.Xattr) bool { return x.Name == t.To && !x.Gone })
	ask(i >= 0, api.ENODATA)
	return l[i]
}
