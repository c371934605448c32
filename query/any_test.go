package query_test

import (
	"fmt"
	"maps"
	"math"
	"math/rand"
	"slices"
	"strings"
	"testing"

	"crannog/api"
	"crannog/calls"
	"crannog/facts"
	"crannog/join"
	"crannog/query"
	"crannog/vector"
	"crannog/view"
)

// replica is a volume as one has it, the same without any pruning, and what each other one is known to know.
type replica struct {
	state api.State
	whole api.State
	known [3]api.Vector
}

// world is replicas that change apart, hear of one another, and prune.
type world struct {
	*rand.Rand
	reps [3]replica
}

func began(seed int) *world {
	w := &world{Rand: rand.New(rand.NewSource(int64(seed)))}
	for i := range w.reps {
		w.reps[i].state, w.reps[i].whole = facts.Empty(), facts.Empty()
	}
	return w
}

// one is any of a list.
func one[T any](w *world, l ...T) T { return l[w.Intn(len(l))] }

// call is any change.
func (w *world) call(v api.State) api.Call {
	there, files := []string{"/"}, []string{"/a"}
	for _, f := range query.Tree(v) {
		there = append(there, f.Path)
		if f.Kind != api.Dir {
			files = append(files, f.Path)
		}
	}
	c := api.Call{Kind: 1 + w.Intn(13), Path: one(w, there...), To: strings.TrimSuffix(one(w, there...), "/") + "/" + one(w, "a", "b", "c")}
	if w.Intn(3) == 0 {
		c.Kind = one(w, api.CMkdir, api.CCreate, api.CCreate, api.CUnlink)
	}
	if c.Kind == api.CUnlink {
		c.Path = one(w, files...)
	}
	if c.Kind == api.CMkdir || c.Kind == api.CCreate || c.Kind == api.CSymlink {
		c.Path, c.To = c.To, one(w, "x", "y")
	}
	if c.Kind == api.CSetx || c.Kind == api.CDelx {
		c.To = one(w, "a", "b", "c")
	}
	c.N, c.Off, c.Time = w.Intn(200), w.Intn(100), one(w, 0, 1, -1, 2.5, math.Inf(1), math.Inf(-1))
	c.Data = strings.Repeat(one(w, "A", "B"), w.Intn(32))
	return c
}

// step is one: somebody does something, hears of another one, or prunes. It tells what was pruned.
func (w *world) step() int {
	i, j := w.Intn(3), w.Intn(3)
	r, other := &w.reps[i], &w.reps[j]
	switch n := w.Intn(10); {
	case n < 7:
		_, d := calls.Do(r.state, i, w.call(r.state))
		if vector.Good(d.Seen) {
			r.state, r.whole = join.States(r.state, d), join.States(r.whole, d)
		}
		if len(d.Nodes)+len(d.Links) == 0 {
			return 0
		}
	case n < 9 && i != j:
		other.known[i] = vector.Join(other.known[i], r.state.Seen)
		r.known[j] = vector.Join(r.known[j], other.state.Seen)
		r.state, r.whole = join.Merge(r.state, other.state), join.States(r.whole, other.whole)
	case n == 9:
		return r.prune(i)
	}
	return 0
}

// prune prunes, as long as all that others are known to know is known here.
func (r *replica) prune(who int) int {
	stable := r.state.Seen
	for j, v := range r.known {
		if j == who {
			continue
		}
		if !vector.Within(v, r.state.Seen) {
			return 0
		}
		stable = vector.Meet(stable, v)
	}
	was := len(r.state.Links)
	r.state = join.Prune(r.state, stable)
	return was - len(r.state.Links)
}

// ask is what a question of a path is answered.
func ask(v api.State, kind int, path, to string) api.Answer {
	ans, _ := calls.Do(v, 0, api.Call{Kind: kind, Path: path, To: to, Off: 3, N: 100})
	if kind == api.CRead && ans.Err == api.OK {
		ans, _ = calls.Do(v, 0, api.Call{Kind: kind, Path: path, N: api.MaxSize})
	}
	return ans
}

// unlike is a question that two volumes answer unlike; empty: there is none.
func unlike(a, b api.State) string {
	paths := map[string]int{"/": 1, "/none": 1, "": 1}
	for _, v := range []api.State{a, b} {
		for _, f := range query.Tree(v) {
			paths[f.Path], paths[f.Path+"/a"] = 1, 1
		}
	}
	for _, path := range slices.Sorted(maps.Keys(paths)) {
		for kind := api.CRead; kind <= api.CListx; kind++ {
			for _, to := range []string{"a", "b", "c", "y", "z"} {
				if x, y := ask(a, kind, path, to), ask(b, kind, path, to); !calls.Same(x, y) {
					return fmt.Sprint(kind, " of ", path, ", ", to, ": ", x, ", ", y)
				}
				if kind != api.CGetx {
					break
				}
			}
		}
	}
	return ""
}

// P14.5, DOC, T2: what was pruned is alike what was not, and answers all questions alike.
func TestAnyPruned(t *testing.T) {
	pruned := 0
	for seed := range 100 {
		w := began(seed)
		for range 120 {
			n := w.step()
			pruned += n
			for i, r := range w.reps {
				if !query.Alike(r.state, r.whole) {
					t.Fatalf("seed %d: %d is not alike: %v, %v", seed, i, r.state, r.whole)
				}
				if n == 0 {
					continue
				}
				if why := unlike(r.state, r.whole); why != "" {
					t.Fatalf("seed %d: %d: %s", seed, i, why)
				}
			}
		}
	}
	if pruned < 100 {
		t.Errorf("%d were pruned", pruned)
	}
}

// P14.4, P14.5: two volumes are alike just if they answer all questions alike.
func TestAnyAlike(t *testing.T) {
	alike := map[string]int{}
	for seed := range 60 {
		w := began(1000 + seed)
		was := facts.Empty()
		for range 80 {
			w.step()
			now := w.reps[w.Intn(3)].state
			why := unlike(was, now)
			if query.Alike(was, now) != (why == "") {
				t.Fatalf("seed %d: alike is %v, but %q: %v, %v", seed, why != "", why, was, now)
			}
			alike[fmt.Sprint(why == "")]++
			was = now
		}
	}
	if alike["true"] < 100 || alike["false"] < 1000 {
		t.Error(alike)
	}
}

// P14.1, P14.6: all that shows is in the tree, in order, and each path leads there.
func TestAnyTree(t *testing.T) {
	count, odd := 0, 0
	for seed := range 60 {
		w := began(2000 + seed)
		for range 80 {
			w.step()
			v := w.reps[w.Intn(3)].state
			l := query.Tree(v)
			if len(l) != len(view.Shown(v))+1 {
				t.Fatalf("seed %d: %v of %v", seed, l, v)
			}
			// Behind each directory what is in it: as if its slash stood ahead of all other bytes.
			if !slices.IsSortedFunc(l, func(a, b api.Found) int {
				return slices.Compare(strings.Split(a.Path, "/"), strings.Split(b.Path, "/"))
			}) {
				t.Fatalf("seed %d: no order: %v", seed, l)
			}
			for _, f := range l {
				st := ask(v, api.CStat, f.Path, "")
				short := len(f.Path) <= api.MaxPath && strings.Count(f.Path, "/") <= api.MaxDeep
				if short && (st.Err != api.OK || st.Stat.Node != f.Node || st.Stat.Kind != f.Kind) || !short && st.Err != api.ENAMETOOLONG {
					t.Fatalf("seed %d: %v: %v", seed, f, st)
				}
				if f.Node == lost && f.Path != "/.lost" || f.Kind != view.Kind(v, f.Node) {
					t.Fatalf("seed %d: %v", seed, f)
				}
				odd += strings.Count(f.Path, "/.lost/")
			}
			count += len(l)
			inTree(t, v, l)
			if l := query.Find(v, "*"); len(l) != len(query.Tree(v)) {
				t.Fatalf("seed %d: %v", seed, l)
			}
		}
	}
	if count < 10000 || odd < 500 {
		t.Error(count, odd)
	}
}

// inTree tells whether whatever a path leads to is in the tree.
func inTree(t *testing.T, v api.State, l []api.Found) {
	t.Helper()
	paths := map[string]int{"/": 1}
	for _, f := range l {
		paths[f.Path]++
	}
	for path := range maps.Clone(paths) {
		for _, name := range []string{"a", "b", "c", "d", ".lost"} {
			on := strings.TrimSuffix(path, "/") + "/" + name
			if st := ask(v, api.CStat, on, ""); (st.Err == api.OK) != (paths[on] == 1) && st.Err != api.ENAMETOOLONG {
				t.Fatalf("%s: %v, of %v", on, st, l)
			}
		}
		for _, name := range ask(v, api.CList, path, "").Names {
			if on := strings.TrimSuffix(path, "/") + "/" + name; paths[on] != 1 {
				t.Fatalf("%s is not in %v", on, l)
			}
		}
	}
}

// P14.3: the same names as CList has, by rising places; how much there is, by questions alone.
func TestAnyNewestAndUsage(t *testing.T) {
	for seed := range 40 {
		w := began(3000 + seed)
		for range 60 {
			w.step()
			v := w.reps[w.Intn(3)].state
			count := map[api.Stamp]int{}
			var want [4]int
			for _, f := range append(query.Tree(v), api.Found{Path: "/", Kind: api.Dir}) {
				newest(t, v, f.Path)
				if count[f.Node]++; count[f.Node] > 1 || f.Path == "/" || f.Path == "/.lost" {
					continue
				}
				want[f.Kind-1]++
				if n, _ := facts.Node(v, f.Node); f.Kind == api.File {
					want[3] += n.Size.N
				}
			}
			files, dirs, syms, bytes := query.Usage(v)
			if got := [4]int{files, dirs, syms, bytes}; got != want {
				t.Fatalf("seed %d: %v, not %v: %v", seed, got, want, v)
			}
		}
	}
}

func newest(t *testing.T, v api.State, path string) {
	t.Helper()
	l, err := query.Newest(v, path)
	list := ask(v, api.CList, path, "")
	if err != list.Err || !slices.Equal(slices.Sorted(slices.Values(l)), list.Names) {
		t.Fatalf("%s: %v, %v of %v", path, l, err, v)
	}
	for i := 1; i < len(l); i++ {
		a := ask(v, api.CStat, strings.TrimSuffix(path, "/")+"/"+l[i-1], "").Stat.Time
		b := ask(v, api.CStat, strings.TrimSuffix(path, "/")+"/"+l[i], "").Stat.Time
		if a < b || a == b && l[i-1] >= l[i] {
			t.Fatalf("%s: %v of %v", path, l, v)
		}
	}
}

// DOC, From arguments alone: the same again and again.
func TestAgain(t *testing.T) {
	for seed := range 20 {
		w := began(4000 + seed)
		for range 100 {
			w.step()
		}
		v := w.reps[0].state
		dump, tree := query.Dump(v), query.Tree(v)
		first, err := query.Newest(v, "/")
		for range 10 {
			l, e := query.Newest(facts.Clone(v), "/")
			if query.Dump(facts.Clone(v)) != dump || !slices.Equal(query.Tree(facts.Clone(v)), tree) || !slices.Equal(l, first) || e != err {
				t.Fatalf("seed %d", seed)
			}
		}
	}
}
