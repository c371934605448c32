package view

import (
	"crannog/api"
	"crannog/join"
	"crannog/names"
	"crannog/vector"
)

// look is a state whose links are looked at. Places of links count from 1 on: 0 is none, as is the place of the root's.
type look struct {
	api.State
	homes map[api.Stamp]int // the place of each directory's link
	shows []bool            // by links
	odd   []bool            // by links
}

// laid is a state whose directories' links can be found.
func laid(s api.State) *look {
	o := &look{State: s, homes: map[api.Stamp]int{}, shows: make([]bool, len(s.Links)), odd: make([]bool, len(s.Links))}
	for i, l := range s.Links {
		o.homes[l.Node] = i + 1 // of a file's links one: nothing is placed in a file
	}
	return o
}

// home is the place of the link of the directory in which a link is placed.
func (o *look) home(at int) int { return o.homes[o.Links[at-1].Parent] }

// behind tells whether a link is placed behind another one.
func (o *look) behind(a, b int) bool {
	x, y := o.Links[a-1].At, o.Links[b-1].At
	return vector.Less(y, x) || x == y && a > b
}

// show marks what shows: what is alive, and all directories on the way to it.
func (o *look) show() {
	for i, l := range o.Links {
		if !join.Alive(l) {
			continue
		}
		for at := i + 1; at > 0 && !o.shows[at-1]; at = o.home(at) {
			o.shows[at-1] = true
		}
	}
}

// rounds marks what is odd of directories that lie below one another. Of a round all show, or none does, and then it is not told.
func (o *look) rounds() {
	from := make([]int, len(o.Links)) // by links: from which one it was come to first
	for i := range o.Links {
		at := i + 1
		for at > 0 && from[at-1] == 0 {
			from[at-1] = i + 1
			at = o.home(at)
		}
		if at > 0 && from[at-1] == i+1 {
			o.odd[o.latest(at)-1] = true
		}
	}
}

// latest is the link of a round that is placed behind all others of it.
func (o *look) latest(at int) int {
	best := at
	for next := o.home(at); next != at; next = o.home(next) {
		if o.behind(next, best) {
			best = next
		}
	}
	return best
}

// clashes marks what is odd of links that are placed under one name: all but the one that is placed behind the others.
func (o *look) clashes() {
	owners := map[place]int{}
	for i, l := range o.Links {
		if !o.shows[i] || o.odd[i] {
			continue
		}
		at, spot := i+1, place{l.Parent, l.Name}
		owner := owners[spot]
		if owner > 0 && o.behind(owner, at) {
			o.odd[i] = true
			continue
		}
		owners[spot] = at
		if owner > 0 {
			o.odd[owner-1] = true
		}
	}
}

// told is what shows, where it does.
func (o *look) told() []api.Shown {
	var l []api.Shown
	for i, k := range o.Links {
		shown := api.Shown{Link: k.Id, Node: k.Node, Parent: k.Parent, Name: k.Name}
		if o.odd[i] {
			shown.Parent, shown.Name, shown.Odd = Lost(), names.Odd(k.Id), true
		}
		if o.shows[i] {
			l = append(l, shown)
		}
	}
	return l
}
