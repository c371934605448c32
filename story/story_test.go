package story_test

import (
	"math"
	"math/rand"
	"slices"
	"strings"
	"testing"

	"crannog/api"
	"crannog/story"
	"crannog/vector"
)

func at(time, who int) api.Stamp { return api.Stamp{Time: time, Who: who} }

func ev(s api.Stamp, vol int, knew ...int) api.Event {
	e := api.Event{At: s, Vol: vol}
	copy(e.Knew[:], knew)
	return e
}

// told is events, by their Vols, in which a test has what tells them from one another.
func told(l []api.Event) []int {
	var out []int
	for _, e := range l {
		out = append(out, e.Vol)
	}
	return out
}

func lines(t *testing.T, e api.Event, want ...string) {
	t.Helper()
	if l := story.Text(e); !slices.Equal(l, want) {
		t.Errorf("%q, want %q", l, want)
	}
}

// P29.1: the document's example
func TestExample(t *testing.T) {
	a := at(3, 1)
	lines(t, api.Event{At: a, Delta: api.State{
		Nodes: []api.Inode{{Id: a, Kind: api.File, Attr: api.Attr{At: a}, Size: api.Size{At: a}}},
		Links: []api.Link{{Id: a, Node: a, At: a, Name: "f", Alive: api.Vector{0, 3}}},
	}}, "event 3.1 v0", "inode 3.1 file,attr,size:0", "link 3.1 place:0.0/f,alive")
}

// P29.1
func TestText(t *testing.T) {
	a := at(12, 7)
	lines(t, api.Event{}, "event 0.0 v0")
	lines(t, api.Event{At: at(1<<40, 7), Vol: 2, Knew: api.Vector{5}, Delta: api.State{Seen: api.Vector{6}}}, "event 1099511627776.7 v2")
	lines(t, api.Event{At: at(-5, math.MinInt), Vol: -2}, "event -5.-9223372036854775808 v-2")
	node := func(n api.Inode, want string) {
		t.Helper()
		n.Id = a
		lines(t, api.Event{At: at(1, 0), Delta: api.State{Nodes: []api.Inode{n}}}, "event 1.0 v0", "inode 12.7 "+want)
	}
	node(api.Inode{}, "")
	node(api.Inode{Kind: api.File}, "file")
	node(api.Inode{Kind: api.Dir}, "dir")
	node(api.Inode{Kind: api.Sym, Text: "text"}, "sym")
	for _, kind := range []int{-1, 4, math.MaxInt} {
		node(api.Inode{Kind: kind}, "")
	}
	node(api.Inode{Attr: api.Attr{Mode: 5, Time: 6}, Size: api.Size{N: 7}}, "")
	node(api.Inode{Attr: api.Attr{At: at(1, 0)}}, "attr")
	node(api.Inode{Attr: api.Attr{At: at(0, 1)}}, "attr")
	node(api.Inode{Size: api.Size{At: at(0, 1), N: 1024}}, "size:1024")
	node(api.Inode{Size: api.Size{At: at(1, 0), N: -1}}, "size:-1")
	node(api.Inode{Pieces: []api.Piece{{Index: 15}, {Index: 0, At: a, Data: "d"}, {Index: 15}}}, "piece:15,piece:0,piece:15")
	node(api.Inode{Xattrs: []api.Xattr{{Name: "b", Val: "v"}, {Name: "a", Gone: true}, {Name: ""}, {Name: "c, d"}}}, "set:b,del:a,set:,set:c, d")
	node(api.Inode{
		Kind: api.File, Attr: api.Attr{At: a}, Size: api.Size{At: a, N: 65}, Pieces: []api.Piece{{Index: 1}}, Xattrs: []api.Xattr{{Name: "x"}},
	}, "file,attr,size:65,piece:1,set:x")
	link := func(k api.Link, want string) {
		t.Helper()
		k.Id = a
		lines(t, api.Event{At: at(1, 0), Delta: api.State{Links: []api.Link{k}}}, "event 1.0 v0", "link 12.7 "+want)
	}
	link(api.Link{}, "")
	link(api.Link{Node: a, Parent: a, Name: "n"}, "")
	link(api.Link{At: at(1, 0), Parent: at(4, 5), Name: "n"}, "place:4.5/n")
	link(api.Link{At: at(0, 1)}, "place:0.0/")
	link(api.Link{Alive: api.Vector{7: 1}}, "alive")
	link(api.Link{Alive: api.Vector{-1}}, "alive")
	link(api.Link{Dead: api.Vector{3: 1}}, "dead")
	link(api.Link{At: a, Name: "n", Alive: api.Vector{1}, Dead: api.Vector{1}}, "place:0.0/n,alive,dead")
	// All inodes, then all links, as they come.
	lines(t, api.Event{At: a, Vol: 1, Delta: api.State{
		Nodes: []api.Inode{{Id: at(9, 0), Kind: api.Dir}, {Id: at(2, 0), Kind: api.File}},
		Links: []api.Link{{Id: at(8, 0), Alive: api.Vector{1}}, {Id: at(1, 0), Dead: api.Vector{1}}},
	}}, "event 12.7 v1", "inode 9.0 dir", "inode 2.0 file", "link 8.0 alive", "link 1.0 dead")
}

// key is what tells events from one another.
type key struct {
	at  api.Stamp
	vol int
}

// P29.2, P29.3
func TestOrder(t *testing.T) {
	l := []api.Event{
		ev(at(2, 1), 3, 1), ev(at(1, 5), 1), ev(at(2, 0), 2), ev(at(2, 1), 3, 2), ev(at(2, 1), 0), ev(at(1, 5), 1, 9), ev(at(-1, 9), 4), ev(at(10, 0), -7), ev(at(10, 0), -8), ev(at(0, 0), 5),
	}
	sorted := []int{4, 5, 1, 2, 0, 3, -8, -7}
	got := story.Order(l)
	if !slices.Equal(told(got), sorted) || got[5].Knew != (api.Vector{1}) || got[2].Knew != (api.Vector{}) {
		t.Error(got)
	}
	if again := story.Order(got); !slices.Equal(told(again), sorted) {
		t.Error(told(again))
	}
	if len(story.Order(nil)) != 0 || len(story.Order([]api.Event{})) != 0 {
		t.Error("of none there are some")
	}
	r := rand.New(rand.NewSource(1))
	for range 300 {
		var l []api.Event
		for range r.Intn(40) {
			l = append(l, ev(at(r.Intn(5), r.Intn(3)), r.Intn(3), len(l)))
		}
		first := map[key]int{}
		for i, e := range l {
			k := key{e.At, e.Vol}
			if _, ok := first[k]; !ok {
				first[k] = i
			}
		}
		got := story.Order(l)
		if len(got) != len(first) {
			t.Fatal(len(got), len(first))
		}
		for i, e := range got {
			if e.Knew[0] != first[key{e.At, e.Vol}] {
				t.Error("not the first one")
			}
			if i > 0 && !(vector.Less(got[i-1].At, e.At) || got[i-1].At == e.At && got[i-1].Vol < e.Vol) {
				t.Error("not in order")
			}
		}
	}
}

// P29.2
func TestAbout(t *testing.T) {
	id := at(4, 2)
	var l []api.Event
	for i, s := range []api.State{
		{},
		{Nodes: []api.Inode{{Id: at(1, 0)}, {Id: id}}},
		{Links: []api.Link{{Id: at(1, 0)}, {Id: id}}},
		{Links: []api.Link{{Id: at(1, 0), Node: id}}},
		{Links: []api.Link{{Id: at(1, 0), Node: id, At: at(5, 5)}}},
		{Links: []api.Link{{Id: at(1, 0), Node: id, At: at(0, 1)}}},
		{Links: []api.Link{{Id: at(1, 0), Parent: id, At: id}}},
		{Nodes: []api.Inode{{Id: at(4, 1), Attr: api.Attr{At: id}}}},
		{Seen: api.Vector{2: 4}},
		{Nodes: []api.Inode{{Id: id}}, Links: []api.Link{{Id: id, Node: id, At: id}}},
	} {
		l = append(l, api.Event{At: id, Vol: i, Delta: s})
	}
	for _, c := range []struct {
		id   api.Stamp
		want []int
	}{{id, []int{1, 2, 4, 5, 9}}, {at(1, 0), []int{1, 2, 3, 4, 5, 6}}, {at(4, 1), []int{7}}, {at(0, 0), []int{6}}, {at(9, 9), nil}} {
		if got := told(story.About(l, c.id)); !slices.Equal(got, c.want) {
			t.Error(c.id, got, c.want)
		}
	}
	if got := told(story.About(slices.Concat(l[9:], l[:2], l[:2]), id)); !slices.Equal(got, []int{9, 1, 1}) {
		t.Error("in order, as often as they come:", got)
	}
	if story.About(nil, id) != nil {
		t.Error("of none there are some")
	}
}

// P29.2
func TestCounts(t *testing.T) {
	var l []api.Event
	var want [8]int
	for i := range 36 {
		l = append(l, ev(at(i%3, i%9-1), i)) // -1 to 7
		if who := i%9 - 1; who >= 0 {
			want[who]++
		}
	}
	l = append(l, ev(at(1, 8), 0), ev(at(1, math.MaxInt), 0), ev(at(1, math.MinInt), 0), ev(at(-1, 7), 0), ev(at(-1, 7), 0))
	want[7] += 2
	if got := story.Counts(l); got != want {
		t.Error(got, want)
	}
	if got := story.Counts(nil); got != [8]int{} {
		t.Error(got)
	}
}

// P29.2
func TestApart(t *testing.T) {
	for i, c := range []struct {
		l    []api.Event
		want [][2]int
	}{
		{nil, nil},
		{[]api.Event{ev(at(1, 0), 0)}, nil},
		{[]api.Event{ev(at(1, 0), 0), ev(at(1, 1), 0)}, [][2]int{{0, 1}}},
		{[]api.Event{ev(at(1, 0), 0), ev(at(1, 1), 1)}, nil},       // of two volumes
		{[]api.Event{ev(at(1, 0), 0), ev(at(1, 0), 0)}, nil},       // one, twice
		{[]api.Event{ev(at(1, 0), 0), ev(at(2, 1), 0, 1)}, nil},    // the second one knew the first one
		{[]api.Event{ev(at(2, 1), 0, 1), ev(at(1, 0), 0)}, nil},    // the other way round
		{[]api.Event{ev(at(1, 0), 0, 0, 2), ev(at(2, 1), 0)}, nil}, // whatever the times
		{[]api.Event{ev(at(2, 0), 0), ev(at(3, 1), 0, 1)}, [][2]int{{0, 1}}},
		{[]api.Event{ev(at(1, 0), 0), ev(at(1, 1), 0), ev(at(2, 2), 0, 1), ev(at(1, 3), 0)}, [][2]int{{0, 1}, {1, 2}, {0, 3}, {1, 3}, {2, 3}}},
		{[]api.Event{ev(at(0, 0), 0), ev(at(1, 1), 0, 5)}, [][2]int{{0, 1}}}, // what is no event is known by nobody
		{[]api.Event{ev(at(1, 0), -3), ev(at(1, 9), -3)}, [][2]int{{0, 1}}},
	} {
		if got := story.Apart(c.l); !slices.Equal(got, c.want) {
			t.Error(i, got, c.want)
		}
	}
	r := rand.New(rand.NewSource(2))
	for range 200 {
		var l []api.Event
		for range r.Intn(25) {
			l = append(l, ev(at(1+r.Intn(5), r.Intn(3)), r.Intn(2), r.Intn(4), r.Intn(4), r.Intn(4)))
		}
		var want [][2]int
		for i := range l {
			for j := i + 1; j < len(l); j++ {
				a, b := l[i], l[j]
				if a.Vol == b.Vol && a.At != b.At && a.Knew[b.At.Who] < b.At.Time && b.Knew[a.At.Who] < a.At.Time {
					want = append(want, [2]int{i, j})
				}
			}
		}
		slices.SortFunc(want, func(a, b [2]int) int { return (a[1]-b[1])*1000 + a[0] - b[0] })
		if got := story.Apart(l); !slices.Equal(got, want) {
			t.Fatal(got, want)
		}
	}
}

// DOC, Memory: what is handed in stays as it is, the room behind it, too
func TestMemory(t *testing.T) {
	l := append(make([]api.Event, 0, 9), ev(at(3, 1), 1), ev(at(1, 1), 2), ev(at(3, 1), 1), ev(at(2, 2), 3))
	l[0].Delta.Links = []api.Link{{Id: at(3, 1)}}
	for range 2 {
		o := story.Order(l)
		clear(o[:cap(o)])
		a := story.About(l, at(3, 1))
		clear(a[:cap(a)])
		p := story.Apart(l)
		clear(p[:cap(p)])
		s := story.Text(l[0])
		clear(s[:cap(s)])
		story.Counts(l)
		if !slices.Equal(told(l), []int{1, 2, 1, 3}) || l[0].Delta.Links[0].Id != at(3, 1) {
			t.Fatal(l)
		}
		for _, e := range l[len(l):cap(l)] {
			if e.At != (api.Stamp{}) {
				t.Error("the room behind it")
			}
		}
	}
	if s := strings.Join(story.Text(l[0]), "|"); s != "event 3.1 v1|link 3.1 " {
		t.Error(s)
	}
}
