package calls

import (
	"slices"

	"crannog/api"
	"crannog/facts"
	"crannog/names"
	"crannog/view"
)

// way is what names lead to, and all on the way to it, itself the last; the root's has nothing.
type way []api.Shown

// end is where a way leads to: the root is told by zeros. Neither the root nor .lost has a link.
func (w way) end() api.Shown {
	if len(w) == 0 {
		return api.Shown{}
	}
	return w[len(w)-1]
}

func (w way) node() api.Stamp { return w.end().Node }

func (w way) isRoot() bool { return len(w) == 0 }

func (w way) isLost() bool { return w.node() == view.Lost() }

// over tells whether a way leads over an inode, or to it.
func (w way) over(node api.Stamp) bool {
	return slices.ContainsFunc(w, func(k api.Shown) bool { return k.Node == node })
}

// walk is the way that names lead.
func (t *task) walk(l []string) way {
	w, err := view.Walk(t.State, t.shown, l)
	refuse(err)
	return w
}

// path is the way to what the call is about.
func (t *task) path() way {
	l, err := names.Split(t.Path)
	refuse(err)
	return t.walk(l)
}

// kind is of which kind it is that a way leads to.
func (t *task) kind(w way) int { return view.Kind(t.State, w.node()) }

// isDir tells whether an inode is a directory.
func (t *task) isDir(node api.Stamp) bool { return view.Kind(t.State, node) == api.Dir }

// inode is the one to which a way leads.
func (t *task) inode(w way) api.Inode {
	n, _ := facts.Node(t.State, w.node())
	return n
}

// own is the way to what the call is about; .lost, which no event made, has nothing that can be asked for, or set.
func (t *task) own() way {
	w := t.path()
	ask(!w.isLost(), api.EPERM)
	return w
}

// moving is the way to what the call takes from its place; the root and .lost stay.
func (t *task) moving() way {
	w := t.path()
	ask(!w.isRoot() && !w.isLost(), api.EBUSY)
	return w
}

// file is the way to the file that the call is about.
func (t *task) file() way {
	w := t.path()
	kind := t.kind(w)
	ask(kind != api.Dir, api.EISDIR)
	ask(kind == api.File, api.EINVAL)
	return w
}

// place is a name in a directory, and what shows there (of nothing zeros).
type place struct {
	dir   way
	name  string
	owner api.Shown
}

func (p place) taken() bool { return p.owner != api.Shown{} }

// spare is the place of a path at which something can be put, be it taken or not.
func (t *task) spare(path string) place {
	l, name, err := names.Parent(path)
	if err == api.EBUSY { // the root: it is there
		err = api.EEXIST
	}
	refuse(err)
	dir := t.walk(l)
	ask(t.kind(dir) == api.Dir, api.ENOTDIR)
	ask(!dir.isLost(), api.EPERM)
	ask(!dir.isRoot() || name != api.Lost, api.EPERM)
	p := place{dir: dir, name: name}
	in := view.In(t.shown, dir.node())
	if i := slices.IndexFunc(in, func(k api.Shown) bool { return k.Name == name }); i >= 0 {
		p.owner = in[i]
	}
	return p
}

// isEmpty tells whether nothing that shows is placed in a directory: what is placed there, and shows in .lost, would hold it yet.
func (t *task) isEmpty(dir api.Stamp) bool {
	return !slices.ContainsFunc(t.Links, func(l api.Link) bool { return l.Parent == dir && t.shows(l.Id) })
}

// shows tells whether a link does.
func (t *task) shows(link api.Stamp) bool {
	return slices.ContainsFunc(t.shown, func(k api.Shown) bool { return k.Link == link })
}
