package fs

import (
	"slices"

	"crannog/api"
	"crannog/calls"
	"crannog/diff"
	"crannog/facts"
	"crannog/join"
	"crannog/names"
	"crannog/tree"
)

// spare is how many blocks are left free by whatever asks for room: the block of all volumes can be written anew then, though the one ahead of it, and the one that is kept, are there, too.
const spare = 3

// Need is how many blocks have to be free for so many changes of a tree of so many levels.
func Need(changes, levels int) int { return diff.Cost(changes, levels) + spare }

// Call is a call on a volume: the answer, and what its event wrote.
func (f *Fs) Call(name string, c api.Call) (api.Answer, api.State) {
	v, err := f.volume(name)
	if err != api.OK {
		return api.Answer{Err: err}, api.State{}
	}
	ans, out := calls.Do(v.state, f.who, c)
	if facts.Same(out, api.State{}) { // a question, a refused call, or one that comes to nothing
		return ans, api.State{}
	}
	if v.Kind == api.VolSnap {
		return api.Answer{Err: api.EROFS}, api.State{}
	}
	if err := f.change(v, join.States(v.state, out)); err != api.OK {
		return api.Answer{Err: err}, api.State{}
	}
	return ans, out
}

// Put has a volume have another state.
func (f *Fs) Put(name string, s api.State) api.Errno {
	v, err := f.volume(name)
	switch {
	case err != api.OK:
		return err
	case v.Kind == api.VolSnap:
		return api.EROFS
	case facts.Check(s) != api.OK:
		return api.EINVAL
	}
	return f.change(v, facts.Clone(s))
}

// Snap makes a snapshot of a volume; Clone a volume of its own of one.
func (f *Fs) Snap(from, name string) api.Errno { return f.branch(from, name, api.VolSnap) }

func (f *Fs) Clone(from, name string) api.Errno { return f.branch(from, name, api.VolClone) }

// branch makes a volume of the replica's own that has another one's state: they share the tree.
func (f *Fs) branch(from, name string, kind int) api.Errno {
	v, err := f.volume(from)
	if err != api.OK {
		return err
	}
	if err := names.Good(name); err != api.OK {
		return err
	}
	at, ok := f.find(name)
	if ok {
		return api.EEXIST
	}
	own := len(f.vols) - f.count(volume.isMain)
	if own >= api.MaxOwn || f.Free() < spare {
		return api.ENOSPC
	}
	v.Name, v.Kind, v.kept = name, kind, kept{}
	if err := f.lay(slices.Insert(slices.Clone(f.vols), at, v)); err != api.OK {
		return err
	}
	f.store.Hold(v.Root)
	return api.OK
}

// Delete takes a snapshot, or a clone, away.
func (f *Fs) Delete(name string) api.Errno {
	v, err := f.volume(name)
	if err != api.OK {
		return err
	}
	if v.isMain() {
		return api.EPERM
	}
	at, _ := f.find(name)
	if err := f.lay(slices.Delete(slices.Clone(f.vols), at, at+1)); err != api.OK {
		return err
	}
	f.store.Drop(v.Root)
	return api.OK
}

// change has a volume have another state: all of it, or nothing.
func (f *Fs) change(v volume, s api.State) api.Errno {
	next, err := f.filled(v, facts.Entries(v.state), s)
	if err != api.OK {
		return err
	}
	vols := slices.Clone(f.vols)
	at, _ := f.find(v.Name)
	vols[at] = next
	if err := f.lay(vols); err != api.OK {
		f.store.Drop(next.Root)
		return err
	}
	f.store.Drop(v.Root)
	return api.OK
}

// filled is a volume, whose tree has some entries, with another state: the root of its tree is held once more.
func (f *Fs) filled(v volume, had []api.Entry, s api.State) (volume, api.Errno) {
	root, err := f.changed(v.Root, v.levels, diff.Lists(had, facts.Entries(s)))
	if err != api.OK {
		return volume{}, err
	}
	levels, err := tree.Height(f.store, root)
	if err != api.OK {
		f.store.Drop(root)
		return volume{}, err
	}
	v.Root, v.levels, v.state = root, levels, s
	return v, api.OK
}

// changed is a tree of so many levels with changes, as long as there is room: its root is held.
func (f *Fs) changed(root, levels int, l []api.Change) (int, api.Errno) {
	if f.Free() < Need(len(l), levels) {
		return 0, api.ENOSPC
	}
	return diff.Apply(f.store, root, l)
}

// lay has the volumes be others: the block of all volumes is written anew, so that Commit asks for no room.
func (f *Fs) lay(vols []volume) api.Errno {
	b := topOf(vols)
	top, err := f.store.Put(b.Kids, b.Data)
	if err != api.OK {
		return err
	}
	f.store.Hold(top)
	f.store.Drop(f.top) // of 0, ahead of the first one, nothing
	f.top, f.vols = top, vols
	return api.OK
}
