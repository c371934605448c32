package view_test

import (
	"math/rand"
	"slices"
	"strconv"
	"strings"
	"testing"

	"crannog/api"
	"crannog/facts"
	"crannog/view"
)

// What follows is the document's words once more: slow, and in another way.

// behind tells whether a link of a list is placed behind another one.
func behind(l []api.Link, i, j int) bool {
	if l[i].At == l[j].At {
		return i > j
	}
	return order(l[i].At, l[j].At) > 0
}

// homeOf is the place of the link of the directory in which one is placed; -1: it has none.
func homeOf(s api.State, i int) int {
	return slices.IndexFunc(s.Links, func(l api.Link) bool { return l.Node == s.Links[i].Parent })
}

// showing are the links that show, by their places.
func showing(s api.State) map[int]bool {
	shows := map[int]bool{}
	for i, l := range s.Links {
		for j := range l.Alive {
			shows[i] = shows[i] || l.Alive[j] > l.Dead[j]
		}
	}
	for changed := true; changed; {
		changed = false
		for i := range s.Links {
			if j := homeOf(s, i); shows[i] && j >= 0 && !shows[j] {
				shows[j], changed = true, true
			}
		}
	}
	return shows
}

// round is the links of the round in which one is, itself first; none, if it is in none.
func round(s api.State, shows map[int]bool, i int) []int {
	l := []int{i}
	for {
		j := homeOf(s, l[len(l)-1])
		switch {
		case j == i:
			return l
		case j < 0 || !shows[j] || slices.Contains(l, j):
			return nil
		}
		l = append(l, j)
	}
}

// oddOnes are the links that are odd, by their places, and those of them that are so for a round.
func oddOnes(s api.State, shows map[int]bool) (odd, turned map[int]bool) {
	odd, turned = map[int]bool{}, map[int]bool{}
	for i := range s.Links {
		if !shows[i] {
			continue
		}
		if l := round(s, shows, i); len(l) > 0 {
			turned[i] = !slices.ContainsFunc(l[1:], func(j int) bool { return behind(s.Links, j, i) })
		}
		odd[i] = turned[i]
	}
	for i, a := range s.Links {
		for j, b := range s.Links {
			if shows[i] && shows[j] && !turned[i] && !turned[j] && a.Parent == b.Parent && a.Name == b.Name && behind(s.Links, j, i) {
				odd[i] = true
			}
		}
	}
	return odd, turned
}

func wantShown(s api.State) []api.Shown {
	shows := showing(s)
	odd, _ := oddOnes(s, shows)
	var l []api.Shown
	for i, k := range s.Links {
		n := api.Shown{Link: k.Id, Node: k.Node, Parent: k.Parent, Name: k.Name, Odd: odd[i]}
		if odd[i] {
			n.Parent, n.Name = lost, "c"+strconv.FormatInt(int64(k.Id.Time), 16)+"-"+strconv.Itoa(k.Id.Who)
		}
		if shows[i] {
			l = append(l, n)
		}
	}
	slices.SortFunc(l, func(a, b api.Shown) int {
		if a.Parent != b.Parent {
			return order(a.Parent, b.Parent)
		}
		return strings.Compare(a.Name, b.Name)
	})
	return l
}

// world makes random states, all of which may be.
type world struct{ *rand.Rand }

// state is one of so many directories, and some files with links.
func (w world) state() api.State {
	dirs := []api.Stamp{root}
	for i := range w.Intn(9) {
		dirs = append(dirs, stamp(i/2+1, i%2))
	}
	var l []api.Link
	for _, id := range dirs[1:] {
		l = append(l, w.link(id, id, dirs))
	}
	for i := range w.Intn(7) {
		id := stamp(i/2+1, 5+i%2)
		l = append(l, w.link(id, stamp(i/4+1, 5+i%2), dirs))
	}
	return state(l...)
}

func (w world) link(id, node api.Stamp, dirs []api.Stamp) api.Link {
	l := link(id, dirs[w.Intn(len(dirs))], []string{"a", "b", "c1-0"}[w.Intn(3)], to(node), placedBy(stamp(1+w.Intn(4), w.Intn(2))))
	if w.Intn(2) == 0 {
		l.At = l.Id
	}
	if w.Intn(3) == 0 {
		dead(&l)
	}
	return l
}

// P12.1: any states, held against the document's words.
func TestAnyShown(t *testing.T) {
	rounds, clashes, hidden := 0, 0, 0
	for seed := range 8000 {
		s := world{rand.New(rand.NewSource(int64(seed)))}.state()
		want := wantShown(s)
		shows(t, "seed "+strconv.Itoa(seed), s, want...)
		if t.Failed() {
			t.FailNow()
		}
		odd, turned := oddOnes(s, showing(s))
		for i := range s.Links {
			if turned[i] {
				rounds++
			} else if odd[i] {
				clashes++
			}
		}
		hidden += len(s.Links) - len(want)
	}
	if rounds < 1000 || clashes < 1000 || hidden < 1000 {
		t.Errorf("%d rounds, %d clashes, %d that do not show", rounds, clashes, hidden)
	}
}

// P12.3, P12.4: each link once, each name once; parents lead to the root, or to the directory of conflicts.
func TestAnyOnceAndHome(t *testing.T) {
	for seed := range 3000 {
		s := world{rand.New(rand.NewSource(int64(seed)))}.state()
		l := view.Shown(s)
		links, spots, homes := map[api.Stamp]int{}, map[string]int{}, map[api.Stamp]api.Stamp{}
		for _, k := range l {
			links[k.Link]++
			spots[strconv.Itoa(k.Parent.Time)+"."+strconv.Itoa(k.Parent.Who)+"/"+k.Name]++
			homes[k.Node] = k.Parent
		}
		if len(links) != len(l) || len(spots) != len(l) {
			t.Fatalf("seed %d: twice: %v", seed, l)
		}
		for _, k := range l {
			at, steps := k.Parent, 0
			for at != root && at != lost && steps <= len(l) {
				next, ok := homes[at]
				if !ok {
					t.Fatalf("seed %d: %v is in what does not show: %v", seed, k, l)
				}
				at, steps = next, steps+1
			}
			if steps > len(l) {
				t.Fatalf("seed %d: %v leads nowhere: %v", seed, k, l)
			}
		}
	}
}

// P12.5: what is alive shows; it is off its place only for a round, or for one that is placed behind it.
func TestAnyNothingLost(t *testing.T) {
	for seed := range 3000 {
		s := world{rand.New(rand.NewSource(int64(seed)))}.state()
		l, all := view.Shown(s), showing(s)
		_, turned := oddOnes(s, all)
		for i, k := range s.Links {
			j := slices.IndexFunc(l, func(n api.Shown) bool { return n.Link == k.Id })
			if j < 0 && k.Alive != k.Dead && k.Dead != full {
				t.Fatalf("seed %d: %v does not show: %v", seed, k, l)
			}
			if j < 0 || !l[j].Odd || turned[i] {
				continue
			}
			owner := slices.IndexFunc(l, func(n api.Shown) bool { return n.Parent == k.Parent && n.Name == k.Name })
			if owner < 0 || !behind(s.Links, slices.IndexFunc(s.Links, func(m api.Link) bool { return m.Id == l[owner].Link }), i) {
				t.Fatalf("seed %d: %v is off its place: %v", seed, k, l)
			}
		}
	}
}

// P12.6: what does not show changes nothing of what does.
func TestAnyAlike(t *testing.T) {
	changed := 0
	for seed := range 3000 {
		w := world{rand.New(rand.NewSource(int64(seed)))}
		s := w.state()
		want, all := view.Shown(s), showing(s)
		other, less := facts.Clone(s), facts.Clone(s)
		less.Links = nil
		for i := range s.Links {
			if all[i] {
				less.Links = append(less.Links, s.Links[i])
				continue
			}
			k := &other.Links[i]
			k.Name, k.At, k.Parent = "moved", stamp(1+w.Intn(9), 3), root
			changed++
		}
		less.Nodes = slices.DeleteFunc(less.Nodes, func(n api.Inode) bool {
			return n.Id != root && !slices.ContainsFunc(less.Links, func(k api.Link) bool { return k.Node == n.Id })
		})
		for i := range other.Nodes {
			n := &other.Nodes[i]
			n.Attr, n.Xattrs = api.Attr{At: stamp(5, 5), Mode: 7, Time: 1 << 63}, []api.Xattr{{Name: "x", At: stamp(5, 5)}}
		}
		shows(t, "without what does not show", less, want...)
		shows(t, "what does not show is elsewhere", other, want...)
		if t.Failed() {
			t.Fatalf("seed %d", seed)
		}
	}
	if changed < 1000 {
		t.Errorf("%d were changed", changed)
	}
}

// P12.2: whatever shows is walked to, from the root on, by the names of its way.
func TestAnyWalk(t *testing.T) {
	for seed := range 3000 {
		s := world{rand.New(rand.NewSource(int64(seed)))}.state()
		l := view.Shown(s)
		for _, k := range l {
			var path []string
			var want []api.Shown
			for n := k; ; {
				path, want = slices.Insert(path, 0, n.Name), slices.Insert(want, 0, n)
				if n.Parent == root {
					break
				}
				if n.Parent == lost {
					path, want = slices.Insert(path, 0, ".lost"), slices.Insert(want, 0, api.Shown{Node: lost, Name: ".lost"})
					break
				}
				n = l[slices.IndexFunc(l, func(m api.Shown) bool { return m.Node == n.Parent })]
			}
			got, err := view.Walk(s, l, path)
			if err != api.OK || !slices.Equal(got, want) {
				t.Fatalf("seed %d: Walk(%q): %v, %v", seed, path, got, err)
			}
			err = api.ENOENT
			if view.Kind(s, k.Node) != api.Dir {
				err = api.ENOTDIR
			}
			if got, e := view.Walk(s, l, append(path, "none", "none")); e != err || got != nil {
				t.Fatalf("seed %d: Walk(%q) and on: %v, %v", seed, path, got, e)
			}
		}
	}
}

// DOC, From arguments alone: the same again and again.
func TestAgain(t *testing.T) {
	for seed := range 40 {
		s := world{rand.New(rand.NewSource(int64(seed)))}.state()
		l := view.Shown(s)
		for range 20 {
			if got := view.Shown(facts.Clone(s)); !slices.Equal(got, l) {
				t.Fatalf("seed %d: %v, then %v", seed, l, got)
			}
		}
		for i := range l {
			l[i].Name = "changed"
		}
		if got := view.Shown(s); !slices.Equal(got, wantShown(s)) {
			t.Fatalf("seed %d: two answers share a list", seed)
		}
	}
}
