package heal_test

import (
	"math"
	"math/rand"
	"strings"

	"crannog/api"
	"crannog/calls"
	"crannog/facts"
	"crannog/join"
	"crannog/query"
)

// world is replicas of a volume that change apart, and hear of one another.
type world struct {
	*rand.Rand
	reps []api.State
}

func began(seed, reps int) *world {
	w := &world{Rand: rand.New(rand.NewSource(int64(seed)))}
	for range reps {
		w.reps = append(w.reps, facts.Empty())
	}
	return w
}

// one is any of a list.
func one[T any](w *world, l ...T) T { return l[w.Intn(len(l))] }

// call is any change, mostly one that may be.
func (w *world) call(s api.State) api.Call {
	there, files, dirs := []string{"/"}, []string{"/a"}, []string{"/a"}
	for _, f := range query.Tree(s) {
		there = append(there, f.Path)
		if f.Kind != api.Dir {
			files = append(files, f.Path)
		} else {
			dirs = append(dirs, f.Path)
		}
	}
	c := api.Call{Kind: 1 + w.Intn(13), Path: one(w, there...), To: strings.TrimSuffix(one(w, there...), "/") + "/" + one(w, "a", "b", "c")}
	if w.Intn(3) == 0 {
		c.Kind = one(w, api.CMkdir, api.CCreate, api.CLink, api.CRename)
	}
	if w.Intn(3) == 0 { // into one another, unheard of each other
		return api.Call{Kind: api.CRename, Path: one(w, dirs...), To: strings.TrimSuffix(one(w, dirs...), "/") + "/" + one(w, "a", "b", "c", "d", "e")}
	}
	switch c.Kind {
	case api.CMkdir, api.CCreate, api.CSymlink:
		c.Path, c.To = c.To, one(w, "x", "/a/b")
	case api.CLink, api.CUnlink, api.CWrite, api.CTruncate:
		c.Path = one(w, files...)
	case api.CSetx, api.CDelx:
		c.To = one(w, "a", "b", "c")
	}
	c.N, c.Off, c.Time = w.Intn(200), w.Intn(100), one(w, 0, 1, -1, 2.5, math.Inf(1), math.Inf(-1))
	c.Data = strings.Repeat(one(w, "A", "B"), w.Intn(33))
	return c
}

// step is one: somebody does something, or hears of another one; whose state is another one then.
func (w *world) step() int {
	i, j := w.Intn(len(w.reps)), w.Intn(len(w.reps))
	if w.Intn(10) == 0 {
		w.reps[i] = join.Merge(w.reps[i], w.reps[j])
		return i
	}
	if ans, out := calls.Do(w.reps[i], i, w.call(w.reps[i])); ans.Err == api.OK {
		w.reps[i] = join.States(w.reps[i], out)
	}
	return i
}
