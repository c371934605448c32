package news

import (
	"crannog/api"
	"crannog/view"
)

const slash = "/"

// step is one of a walk: a link that shows, and its path.
type step struct {
	api.Shown
	path string
}

// id tells a link from others, as long as it is of the same inode.
type id struct{ link, node api.Stamp }

// walk is a way through all that shows in a volume, and at which step it came by what.
type walk struct {
	api.State
	shown []api.Shown
	steps []step
	links map[id]int
	first map[api.Stamp]int // by inodes
}

// walked is the walk of a volume: what shows in the root, then what does in the directory of conflicts.
func walked(s api.State) *walk {
	w := &walk{State: s, shown: view.Shown(s), links: map[id]int{}, first: map[api.Stamp]int{}}
	w.below(api.Stamp{}, "")
	w.below(view.Lost(), slash+api.Lost)
	return w
}

// below goes through all that shows below a directory.
func (w *walk) below(dir api.Stamp, path string) {
	for _, k := range view.In(w.shown, dir) {
		s := step{Shown: k, path: path + slash + k.Name}
		if _, again := w.first[s.Node]; !again {
			w.first[s.Node] = len(w.steps)
		}
		w.links[id{s.Link, s.Node}] = len(w.steps)
		w.steps = append(w.steps, s)
		if view.Kind(w.State, s.Node) == api.Dir {
			w.below(s.Node, s.path)
		}
	}
}

// same is the step at which a walk came by the link of another one's step; false: it did not.
func (w *walk) same(s step) (step, bool) {
	i, ok := w.links[id{s.Link, s.Node}]
	if !ok {
		return step{}, false
	}
	return w.steps[i], true
}
