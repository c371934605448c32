package batch_test

import (
	"math"
	"slices"
	"strings"
	"testing"

	"crannog/api"
	"crannog/batch"
	"crannog/calls"
	"crannog/facts"
	"crannog/join"
	"crannog/query"
)

func called(kind int, path, to string) api.Call { return api.Call{Kind: kind, Path: path, To: to} }

func sameResult(a, b api.Result) bool {
	return a.Refused == b.Refused && slices.EqualFunc(a.Answers, b.Answers, calls.Same) &&
		facts.Same(a.State, b.State) && slices.EqualFunc(a.Deltas, b.Deltas, facts.Same)
}

// town is a volume: /d, /d/f with bytes, also /g, xattrs, a mode and a time; /s; /e, which is empty.
func town(t *testing.T) api.State {
	t.Helper()
	r := batch.Do(facts.Empty(), 0, []api.Call{
		called(api.CMkdir, "/d", ""), called(api.CCreate, "/d/f", ""), called(api.CLink, "/d/f", "/g"), called(api.CSymlink, "/s", "to"), called(api.CCreate, "/e", ""), called(api.CMkdir, "/none", ""),
		{Kind: api.CWrite, Path: "/g", Data: "01234"}, {Kind: api.CSetx, Path: "/g", To: "x", Data: "y"}, {Kind: api.CSetx, Path: "/g", To: "z", Data: "1"}, called(api.CDelx, "/g", "z"),
		{Kind: api.CChmod, Path: "/g", N: 0o640}, {Kind: api.CUtime, Path: "/g", Time: -2.5},
	})
	if r.Refused != -1 || len(r.Deltas) != 12 {
		t.Fatal(r)
	}
	return r.State
}

// P28.1
func TestDo(t *testing.T) {
	s := town(t)
	was := facts.Clone(s)
	l := []api.Call{called(api.CMkdir, "/h", ""), called(api.CRename, "/g", "/g"), called(api.CRename, "/g", "/h/g"), {Kind: api.CRead, Path: "/h/g", N: 3}, called(api.CList, "/h", ""), {Kind: api.CWrite, Path: "/h/g"}, called(api.CUnlink, "/e", "")}
	r := batch.Do(s, 3, l)
	a, first := calls.Do(s, 3, l[0])
	mid := join.States(s, first)
	b, second := calls.Do(mid, 3, l[2])
	end := join.States(mid, second)
	c, third := calls.Do(end, 3, l[6])
	end = join.States(end, third)
	want := api.Result{Answers: []api.Answer{a, {}, b, {Data: "012"}, {Names: []string{"g"}}, {}, c}, Refused: -1, State: end, Deltas: []api.State{first, second, third}}
	if !sameResult(r, want) || !facts.Same(s, was) {
		t.Errorf("%v, want %v", r, want)
	}
	if !facts.Same(join.States(s, batch.One(r.Deltas)), r.State) {
		t.Error("as one")
	}
	if r := batch.Do(s, 3, l[3:4]); !sameResult(r, api.Result{Answers: []api.Answer{{Err: api.ENOENT}}, State: s}) {
		t.Error(r)
	}
	if r := batch.Do(s, 3, []api.Call{{Kind: api.CStat, Path: "/e"}, called(api.CList, "/none", "")}); r.Refused != -1 || len(r.Answers) != 2 || r.Answers[0].Stat.Kind != api.File || len(r.Deltas) != 0 || !facts.Same(r.State, s) {
		t.Error("questions alone:", r)
	}
	for _, l := range [][]api.Call{nil, {}} {
		if r := batch.Do(s, -9, l); !sameResult(r, api.Result{Refused: -1, State: s}) {
			t.Error("none:", r)
		}
	}
}

// P28.1: the first that is refused, and nothing done.
func TestDoRefused(t *testing.T) {
	s := town(t)
	good, bad := called(api.CMkdir, "/h", ""), called(api.CMkdir, "/d", "")
	ok, _ := calls.Do(s, 0, good)
	hand := facts.Clone(s)
	hand.Links[0].Name = ""
	full := facts.Clone(s)
	full.Seen[5] = api.MaxTime - 1 // one event is left
	for i, c := range []struct {
		s    api.State
		who  int
		l    []api.Call
		want []api.Answer
	}{
		{s, 0, []api.Call{bad, good}, []api.Answer{{Err: api.EEXIST}}},
		{s, 0, []api.Call{good, bad, good}, []api.Answer{ok, {Err: api.EEXIST}}},
		{s, 0, []api.Call{good, good}, []api.Answer{ok, {Err: api.EEXIST}}},
		{s, 0, []api.Call{good, called(api.CRename, "/d", "/h/d"), called(api.CStat, "/d", "")}, []api.Answer{ok, {}, {Err: api.ENOENT}}},
		{s, 0, []api.Call{good, {Kind: api.CRead, Path: "/g", N: 1}, {}}, []api.Answer{ok, {Data: "0"}, {Err: api.EINVAL}}},
		{s, 8, []api.Call{good}, []api.Answer{{Err: api.EINVAL}}},
		{s, -1, []api.Call{{Kind: api.CRead, Path: "/g", N: 1}, good}, []api.Answer{{Data: "0"}, {Err: api.EINVAL}}},
		{hand, 0, []api.Call{{Kind: api.CRead, Path: "/g", N: 1}}, []api.Answer{{Err: api.EFORM}}},
		{full, 5, []api.Call{good, called(api.CRmdir, "/h", "")}, []api.Answer{ok, {Err: api.EOVERFLOW}}},
	} {
		was := facts.Clone(c.s)
		r := batch.Do(c.s, c.who, c.l)
		if !sameResult(r, api.Result{Answers: c.want, Refused: len(c.want) - 1, State: c.s}) || !facts.Same(c.s, was) {
			t.Errorf("%d: %v", i, r)
		}
	}
}

// P28.1
func TestOneChangesQuestions(t *testing.T) {
	if s := batch.One(nil); !facts.Same(s, api.State{}) {
		t.Error(s)
	}
	s := town(t)
	for _, l := range [][]api.State{{s}, {s, s}, {s, facts.Empty()}, {facts.Empty(), {}, s}} {
		if one := batch.One(l); !facts.Same(one, s) {
			t.Error(one)
		}
	}
	one := batch.One([]api.State{s})
	clear(one.Links)
	clear(one.Nodes[2].Pieces)
	if !facts.Same(s, town(t)) {
		t.Error("it shares memory")
	}
	var l, want []api.Call
	for _, kind := range []int{math.MinInt, -1, 0, 1, 2, 3, 4, 5, 6, 7, 8, 9, 10, 11, 12, 13, 14, 15, 16, 17, 18, 19, 20, math.MaxInt} {
		c := api.Call{Kind: kind, Path: "/p", N: len(l)}
		l = append(l, c)
		if changes := kind >= 1 && kind <= 13; batch.Changes(c) != changes {
			t.Error(kind)
		} else if !changes {
			want = append(want, c)
		}
	}
	was := slices.Clone(l)
	got := batch.Questions(l)
	if !slices.Equal(got, want) || !slices.Equal(l, was) {
		t.Error(got)
	}
	clear(got[:cap(got)])
	if !slices.Equal(l, was) || len(batch.Questions(nil)) != 0 || len(batch.Questions(l[3:16])) != 0 {
		t.Error(l)
	}
}

// P28.2: what takes each back.
func TestUndo(t *testing.T) {
	s := town(t)
	ff := api.Call{Kind: api.CTruncate, Path: "/g", N: 5}
	back := api.Call{Kind: api.CWrite, Path: "/g", Data: "01234"}
	for _, c := range []struct {
		call api.Call
		want []api.Call
	}{
		{api.Call{Kind: api.CMkdir, Path: "/h", N: 7, Time: 3, To: "x", Data: "y", Off: 9}, []api.Call{called(api.CRmdir, "/h", "")}},
		{called(api.CCreate, "/d/h", ""), []api.Call{called(api.CUnlink, "/d/h", "")}},
		{called(api.CSymlink, "/h", "to"), []api.Call{called(api.CUnlink, "/h", "")}},
		{called(api.CLink, "/g", "/h"), []api.Call{called(api.CUnlink, "/h", "")}},
		{api.Call{Kind: api.CRename, Path: "/g", To: "/d/h", N: 7, Data: "y"}, []api.Call{called(api.CRename, "/d/h", "/g")}},
		{called(api.CRename, "/d", "/h"), []api.Call{called(api.CRename, "/h", "/d")}},
		{called(api.CRename, "/g", "/e"), nil}, // what stood there is gone
		{called(api.CUnlink, "/g", ""), nil},
		{called(api.CRmdir, "/none", ""), nil},
		{api.Call{Kind: api.CWrite, Path: "/g", Data: "abc"}, []api.Call{ff, back}},
		{api.Call{Kind: api.CWrite, Path: "/g", Off: 1000, Data: "abc", N: 3}, []api.Call{ff, back}},
		{api.Call{Kind: api.CWrite, Path: "/g", Data: "01234"}, []api.Call{ff, back}},
		{api.Call{Kind: api.CTruncate, Path: "/g", N: 2}, []api.Call{ff, back}},
		{api.Call{Kind: api.CTruncate, Path: "/g", N: 1024}, []api.Call{ff, back}},
		{api.Call{Kind: api.CWrite, Path: "/e", Data: "abc"}, []api.Call{{Kind: api.CTruncate, Path: "/e"}}},
		{api.Call{Kind: api.CTruncate, Path: "/e", N: 9}, []api.Call{{Kind: api.CTruncate, Path: "/e"}}},
		{api.Call{Kind: api.CChmod, Path: "/g", N: 1, Time: 4}, []api.Call{{Kind: api.CChmod, Path: "/g", N: 0o640}}},
		{api.Call{Kind: api.CUtime, Path: "/g", Time: math.Inf(-1), N: 4}, []api.Call{{Kind: api.CUtime, Path: "/g", Time: -2.5}}},
		{api.Call{Kind: api.CChmod, Path: "/", N: 1}, []api.Call{{Kind: api.CChmod, Path: "/", N: 0o755}}},
		{api.Call{Kind: api.CUtime, Path: "/", Time: 1}, []api.Call{{Kind: api.CUtime, Path: "/"}}},
		{api.Call{Kind: api.CSetx, Path: "/g", To: "x", Data: "new", N: 5}, []api.Call{{Kind: api.CSetx, Path: "/g", To: "x", Data: "y"}}},
		{api.Call{Kind: api.CSetx, Path: "/g", To: "z", Data: "new"}, []api.Call{called(api.CDelx, "/g", "z")}},
		{api.Call{Kind: api.CSetx, Path: "/g", To: "w"}, []api.Call{called(api.CDelx, "/g", "w")}},
		{api.Call{Kind: api.CDelx, Path: "/g", To: "x", Data: "q"}, []api.Call{{Kind: api.CSetx, Path: "/g", To: "x", Data: "y"}}},
		{called(api.CDelx, "/g", "z"), nil},
		{called(api.CMkdir, "/d", ""), nil},
		{called(api.CRename, "/g", "/g"), nil},
		{api.Call{Kind: api.CWrite, Path: "/g"}, nil},
		{api.Call{Kind: api.CRead, Path: "/g", N: 4}, nil},
		{called(api.CStat, "/g", ""), nil},
		{api.Call{Kind: 99, Path: "/g"}, nil},
		{api.Call{}, nil},
	} {
		was := facts.Clone(s)
		l, ok := batch.Undo(s, 2, c.call)
		if !slices.Equal(l, c.want) || ok != (c.want != nil) || !facts.Same(s, was) {
			t.Errorf("%v: %v, %v, want %v", c.call, l, ok, c.want)
		}
		if ok {
			takenBack(t, s, 2, c.call, l)
		}
	}
}

// takenBack does a call, and what takes it back: all that can be asked is as it was.
func takenBack(t *testing.T, s api.State, who int, c api.Call, l []api.Call) {
	t.Helper()
	r := batch.Do(s, who, append([]api.Call{c}, l...))
	if r.Refused != -1 || query.Dump(r.State) != query.Dump(s) {
		t.Fatalf("%v, %v: %v", c, l, r)
	}
}

// P28.2: nothing takes it back, though there is what would.
func TestUndoNone(t *testing.T) {
	s := town(t)
	bad := facts.Clone(s)
	bad.Links[0].Name = ""
	late := facts.Clone(s)
	late.Seen[5] = api.MaxTime - 1 // one event is left
	other := join.States(batch.Do(facts.Empty(), 1, []api.Call{called(api.CMkdir, "/d", "")}).State, s)
	for _, c := range []struct {
		what string
		s    api.State
		who  int
		call api.Call
	}{
		{"what may not be", bad, 0, called(api.CMkdir, "/h", "")},
		{"nobody", s, 8, called(api.CMkdir, "/h", "")},
		{"no event is left", late, 5, called(api.CMkdir, "/h", "")},
		{"no event is left, though nothing was another one", late, 5, api.Call{Kind: api.CWrite, Path: "/g", Data: "01234"}},
		{"out of the directory of conflicts", other, 0, called(api.CRename, "/.lost/c1-0", "/h")},
		{"a place in a directory that was moved", s, 0, called(api.CLink, "/d/f", "/.lost/h")},
	} {
		if l, ok := batch.Undo(c.s, c.who, c.call); ok || len(l) != 0 {
			t.Errorf("%s: %v", c.what, l)
		}
	}
}

// P28.2: wide values, to the last byte.
func TestUndoWide(t *testing.T) {
	data := strings.Repeat("0123456789abcdef", 64)
	s := batch.Do(facts.Empty(), 0, []api.Call{called(api.CCreate, "/f", ""), {Kind: api.CWrite, Path: "/f", Data: data}}).State
	for _, c := range []api.Call{{Kind: api.CTruncate, Path: "/f"}, {Kind: api.CWrite, Path: "/f", Off: 1023, Data: "x"}} {
		l, ok := batch.Undo(s, 0, c)
		if !ok || !slices.Equal(l, []api.Call{{Kind: api.CTruncate, Path: "/f", N: 1024}, {Kind: api.CWrite, Path: "/f", Data: data}}) {
			t.Error(l, ok)
		}
		takenBack(t, s, 0, c, l)
	}
}

// P28.1 to P28.4: any calls on any volume.
func TestAny(t *testing.T) {
	kinds := map[int]int{}
	done, refused := 0, 0
	for seed := range 60 {
		w := began(seed, 1+seed%3)
		for range 100 {
			who := w.Intn(len(w.reps))
			s := w.reps[who]
			l := []api.Call{}
			for range 1 + w.Intn(4) {
				l = append(l, w.call(s), api.Call{Kind: 14 + w.Intn(6), Path: "/"})
			}
			r := batch.Do(s, who, l)
			if w := oneByOne(s, who, l); !sameResult(r, w) {
				t.Fatalf("seed %d: %v: %v, want %v", seed, l, r, w)
			}
			if r.Refused < 0 {
				done++
				if !facts.Same(join.States(s, batch.One(r.Deltas)), r.State) {
					t.Fatalf("seed %d: %v: as one", seed, l)
				}
			} else {
				refused++
			}
			c := w.call(s)
			back, ok := batch.Undo(s, who, c)
			ans, out := calls.Do(s, who, c)
			made := ans.Err == api.OK && c.Kind != api.CUnlink && c.Kind != api.CRmdir && c.Kind != api.CRename && len(out.Nodes) > 0
			if made && !ok || !ok && len(back) > 0 || ok && (len(back) == 0 || ans.Err != api.OK) {
				t.Fatalf("seed %d: %v: %v, %v on %v", seed, c, back, ok, s)
			}
			if ok {
				kinds[c.Kind]++
				takenBack(t, s, who, c, back)
			}
			w.step()
		}
	}
	for _, kind := range []int{api.CMkdir, api.CCreate, api.CLink, api.CSymlink, api.CRename, api.CWrite, api.CTruncate, api.CChmod, api.CUtime, api.CSetx, api.CDelx} {
		if kinds[kind] < 10 {
			t.Errorf("of kind %d %d were taken back", kind, kinds[kind])
		}
	}
	if done < 100 || refused < 100 {
		t.Error(done, refused)
	}
}

// oneByOne is what comes of calls that are done one by one.
func oneByOne(s api.State, who int, l []api.Call) api.Result {
	r := api.Result{Refused: -1, State: s}
	for i, c := range l {
		ans, out := calls.Do(r.State, who, c)
		r.Answers = append(r.Answers, ans)
		if ans.Err != api.OK {
			r.Refused, r.State, r.Deltas = i, s, nil
			break
		}
		r.State = join.States(r.State, out)
		if out.Seen != (api.Vector{}) {
			r.Deltas = append(r.Deltas, out)
		}
	}
	return r
}
