package calls

import (
	"slices"

	"crannog/api"
	"crannog/vector"
)

// event is one that is being written.
type event struct {
	api.State // what it writes: Seen is the event alone
	id        api.Stamp
	known     api.Vector // by who did it: all ahead of it, and the event
}

// event is the next one of who asks: what is refused must be so by now.
func (t *task) event() *event {
	id, err := vector.Next(t.Seen, t.who)
	refuse(err)
	e := &event{id: id, known: vector.With(t.Seen, id)}
	e.Seen = vector.With(e.Seen, id)
	return e
}

// touch writes that something was done through all links of a way.
func (e *event) touch(w way) {
	for _, k := range w {
		if vector.Is(k.Link) { // .lost has none
			e.Links = append(e.Links, api.Link{Id: k.Link, Alive: e.Seen})
		}
	}
}

// kill writes that a link was taken away by one who knew so much.
func (e *event) kill(link api.Stamp) {
	e.Links = append(e.Links, api.Link{Id: link, Dead: e.known})
}

// put writes that a link to an inode stands at a place.
func (e *event) put(link, node api.Stamp, p place) {
	e.touch(p.dir)
	e.Links = append(e.Links, api.Link{Id: link, Node: node, At: e.id, Parent: p.dir.node(), Name: p.name, Alive: e.Seen})
}

// change writes something of the inode to which a way leads.
func (e *event) change(w way, n api.Inode) {
	e.touch(w)
	n.Id = w.node()
	e.Nodes = append(e.Nodes, n)
}

// pieces is those of a file's bytes that are others than they were, and those in which something lies that was put there.
func (e *event) pieces(was, is string, from, to int) []api.Piece {
	var l []api.Piece
	for i := range maxPieces {
		data := chunk(is, i)
		lies := from < (i+1)*api.Chunk && to > i*api.Chunk
		if lies || data != chunk(was, i) {
			l = append(l, api.Piece{Index: i, At: e.id, Data: data})
		}
	}
	return l
}

// written is all that was, by rising Ids.
func (e *event) written() api.State {
	slices.SortFunc(e.Links, func(a, b api.Link) int {
		if vector.Less(a.Id, b.Id) {
			return -1
		}
		return 1 // no link is written twice
	})
	return e.State
}
