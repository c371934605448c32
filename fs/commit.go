package fs

import (
	"math"

	"crannog/api"
	"crannog/diff"
	"crannog/facts"
	"crannog/tree"
)

// Commit keeps all that was done: all of it, or what was kept before.
func (f *Fs) Commit() api.Errno {
	if !f.made() {
		return api.ENIL
	}
	if err := f.store.Commit(f.top, Note(f.who, f.boot)); err != api.OK {
		return err
	}
	for i := range f.vols {
		if v := &f.vols[i]; v.isMain() {
			f.store.Hold(v.Root) // ahead of the other one's going: they may be the same
			f.store.Drop(v.kept.root)
			v.kept = kept{root: v.Root, seen: v.state.Seen}
		}
	}
	return api.OK
}

// Kept is the tree of a volume that all have, as of the last commit, and what it knows.
func (f *Fs) Kept(name string) (int, api.Vector, api.Errno) {
	v, err := f.volume(name)
	if err == api.OK && !v.isMain() {
		err = api.EPERM
	}
	if err != api.OK {
		return 0, api.Vector{}, err
	}
	return v.kept.root, v.kept.seen, api.OK
}

// Load is the state that a tree has.
func (f *Fs) Load(root int) (api.State, api.Errno) {
	if !f.made() {
		return api.State{}, api.ENIL
	}
	l, err := tree.Range(f.store, root, "", "", math.MaxInt)
	if err != api.OK {
		return api.State{}, err
	}
	return facts.State(l)
}

// Diff is what leads from one tree to another one.
func (f *Fs) Diff(a, b int) ([]api.Change, api.Errno) {
	if !f.made() {
		return nil, api.ENIL
	}
	l, _, err := diff.Trees(f.store, a, b)
	return l, err
}

// Grow is a tree with changes: its root is held.
func (f *Fs) Grow(root int, l []api.Change) (int, api.Errno) {
	if !f.made() {
		return 0, api.ENIL
	}
	levels, err := tree.Height(f.store, root)
	if err != api.OK {
		return 0, err
	}
	return f.changed(root, levels, l)
}

// Hold has a tree stay; Drop lets it go.
func (f *Fs) Hold(root int) api.Errno {
	if !f.made() {
		return api.ENIL
	}
	return f.store.Hold(root)
}

func (f *Fs) Drop(root int) api.Errno {
	if !f.made() {
		return api.ENIL
	}
	return f.store.Drop(root)
}
