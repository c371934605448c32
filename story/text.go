package story

import (
	"strconv"
	"strings"

	"crannog/api"
)

// Text is an event as lines: which it is, and what it wrote.
func Text(e api.Event) []string {
	l := []string{"event " + stamp(e.At) + " v" + strconv.Itoa(e.Vol)}
	for _, n := range e.Delta.Nodes {
		l = append(l, line("inode", n.Id, nodeParts(n)))
	}
	for _, k := range e.Delta.Links {
		l = append(l, line("link", k.Id, linkParts(k)))
	}
	return l
}

// stamp is a stamp as text.
func stamp(s api.Stamp) string { return strconv.Itoa(s.Time) + "." + strconv.Itoa(s.Who) }

// line is what was written of something; there is a blank ahead of its parts, even if there are none.
func line(word string, id api.Stamp, parts []string) string {
	return word + " " + stamp(id) + " " + strings.Join(parts, ",")
}

// nodeParts is what was written of an inode.
func nodeParts(n api.Inode) []string {
	var l []string
	switch n.Kind {
	case api.File:
		l = append(l, "file")
	case api.Dir:
		l = append(l, "dir")
	case api.Sym:
		l = append(l, "sym")
	}
	if is(n.Attr.At) {
		l = append(l, "attr")
	}
	if is(n.Size.At) {
		l = append(l, "size:"+strconv.Itoa(n.Size.N))
	}
	for _, p := range n.Pieces {
		l = append(l, "piece:"+strconv.Itoa(p.Index))
	}
	for _, x := range n.Xattrs {
		word := "set:"
		if x.Gone {
			word = "del:"
		}
		l = append(l, word+x.Name)
	}
	return l
}

// linkParts is what was written of a link.
func linkParts(k api.Link) []string {
	var l []string
	if placed(k) {
		l = append(l, "place:"+stamp(k.Parent)+"/"+k.Name)
	}
	if k.Alive != (api.Vector{}) {
		l = append(l, "alive")
	}
	if k.Dead != (api.Vector{}) {
		l = append(l, "dead")
	}
	return l
}
