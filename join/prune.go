package join

import (
	"slices"

	"crannog/api"
	"crannog/vector"
)

// pruned is a state from which what nobody needs any more goes. Places of links count from 1 on: 0 is none.
type pruned struct {
	api.State
	known  api.Vector        // by all
	last   map[api.Stamp]int // the place of an inode's last link
	before []int             // by links: the place of the same inode's link ahead of it
	stays  []bool            // by links
}

// Prune is a state without what was unlinked, as all know, and can come back no more: stable is what all know.
func Prune(s api.State, stable api.Vector) api.State {
	p := laid(s, vector.Meet(s.Seen, stable))
	all := slices.ContainsFunc(p.Links, p.moved)
	for i, l := range p.Links {
		// What is on the way to one that is alive is up, too: it stays with that one.
		if all || Alive(l) || !p.settled(l) {
			p.keep(i + 1)
		}
	}
	return p.left()
}

// laid is a state whose links can be found by their inodes.
func laid(s api.State, known api.Vector) *pruned {
	n := len(s.Links)
	p := &pruned{State: s, known: known, last: map[api.Stamp]int{}, before: make([]int, n), stays: make([]bool, n)}
	for i, l := range s.Links {
		p.before[i] = p.last[l.Node]
		p.last[l.Node] = i + 1
	}
	return p
}

// moved tells whether others may see a link yet where it was.
func (p *pruned) moved(l api.Link) bool {
	return l.At != l.Id && !vector.Has(p.known, l.At)
}

// settled tells whether all know all that was done to a link.
func (p *pruned) settled(l api.Link) bool {
	return vector.Within(l.Alive, p.known) && vector.Within(l.Dead, p.known) && vector.Has(p.known, l.At)
}

// keep marks a link as one that stays, and all by which one comes to where it is placed.
func (p *pruned) keep(place int) {
	work := []int{place}
	for len(work) > 0 {
		i := work[len(work)-1] - 1
		work = work[:len(work)-1]
		if p.stays[i] {
			continue
		}
		p.stays[i] = true
		parent := p.Links[i].Parent
		for j := p.last[parent]; j > 0; j = p.before[j-1] {
			work = append(work, j)
		}
		delete(p.last, parent) // once is enough, however much is placed there
	}
}

// left is what stays, in memory of its own.
func (p *pruned) left() api.State {
	s := api.State{Seen: p.Seen}
	leads := map[api.Stamp]int{}
	for i, l := range p.Links {
		if p.stays[i] {
			s.Links = append(s.Links, l)
			leads[l.Node]++
		}
	}
	for _, n := range p.Nodes {
		if leads[n.Id] > 0 || !vector.Has(p.known, n.Id) {
			n.Pieces, n.Xattrs = slices.Clone(n.Pieces), slices.Clone(n.Xattrs)
			s.Nodes = append(s.Nodes, n)
		}
	}
	return s
}
