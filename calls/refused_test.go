package calls_test

import (
	"math"
	"strconv"
	"strings"
	"testing"

	"crannog/api"
	"crannog/calls"
	"crannog/facts"
	"crannog/join"
)

// asked is a call, and which error it has.
type asked struct {
	c    api.Call
	want api.Errno
}

// refused tells whether calls on a state are refused as they should be, with just that error, and nothing written.
func refused(t *testing.T, v api.State, l []asked) {
	t.Helper()
	for _, c := range l {
		ans, out := do(t, v, c.c)
		if ans.Err != c.want || c.want != api.OK && (!calls.Same(ans, api.Answer{Err: c.want}) || !facts.Same(out, api.State{})) {
			t.Errorf("%v: %v, %v, not %v", c.c, ans, out, c.want)
		}
	}
}

var (
	long = "/" + strings.Repeat("n", 120)
	deep = strings.Repeat("/n", 9)
)

// P13.2: a path's errors, of every kind of call.
func TestRefusedPaths(t *testing.T) {
	v := town()
	for kind := api.CMkdir; kind <= api.CListx; kind++ {
		// All else is wrong, too: a path's errors come first.
		c := api.Call{Kind: kind, To: "", Off: -1, N: -1, Data: strings.Repeat("d", 2000), Time: math.NaN()}
		for path, want := range map[string]api.Errno{
			"": api.EINVAL, "f": api.EINVAL, "//": api.EINVAL, "/f/": api.EINVAL, "/./f": api.EINVAL, "/d/../f": api.EINVAL, "/a\x00": api.EINVAL,
			long: api.ENAMETOOLONG, deep: api.ENAMETOOLONG, "/" + strings.Repeat("n", 17): api.ENAMETOOLONG,
			"/none/n": api.ENOENT, "/d/none/n": api.ENOENT, "/gone/n": api.ENOENT, "/.lost/none/n": api.ENOENT,
			"/f/n/n": api.ENOTDIR, "/s/n/n": api.ENOTDIR, "/d/e/k/n/n": api.ENOTDIR, "/.lost/c7-1/n/n": api.ENOTDIR,
		} {
			c.Path = path
			refused(t, v, []asked{{c, want}})
			if kind == api.CLink || kind == api.CRename {
				refused(t, v, []asked{{api.Call{Kind: kind, Path: "/f", To: path}, want}})
			}
		}
		c.Path, c.To = "/none", "/"
		if kind != api.CMkdir && kind != api.CCreate && kind != api.CSymlink {
			refused(t, v, []asked{{c, api.ENOENT}})
			c.Path = "/f/n"
			refused(t, v, []asked{{c, api.ENOTDIR}})
		}
	}
}

// P13.2: a spare place's errors, and its being taken.
func TestRefusedPlaces(t *testing.T) {
	v := town()
	places := []struct {
		path  string
		want  api.Errno
		taken bool
	}{
		{"/", api.EEXIST, false}, {"/f/n", api.ENOTDIR, false}, {"/s/n", api.ENOTDIR, false}, {"/d/e/k/n", api.ENOTDIR, false},
		{"/.lost", api.EPERM, false}, {"/.lost/n", api.EPERM, false}, {"/.lost/c5-0", api.EPERM, false}, {"/.lost/.lost", api.EPERM, false},
		{"/s", api.EEXIST, true}, {"/d/f2", api.EEXIST, true}, {"/d/e/k", api.EEXIST, true}, {"/.lost/c5-0/g", api.EEXIST, true},
	}
	for _, p := range places {
		for _, kind := range []int{api.CMkdir, api.CCreate, api.CSymlink} {
			// All that is asked for behind it is wrong, too.
			refused(t, v, []asked{{api.Call{Kind: kind, Path: p.path, N: 512, Time: math.NaN()}, p.want}})
		}
		refused(t, v, []asked{{api.Call{Kind: api.CLink, Path: "/f", To: p.path}, p.want}})
		if !p.taken {
			refused(t, v, []asked{{api.Call{Kind: api.CRename, Path: "/f", To: p.path}, p.want}})
			refused(t, v, []asked{{api.Call{Kind: api.CRename, Path: "/d", To: p.path}, p.want}})
		}
	}
	full := crowd(api.MaxNodes+1, api.MaxLinks)
	for _, kind := range []int{api.CMkdir, api.CCreate, api.CSymlink, api.CLink} {
		refused(t, full, []asked{{api.Call{Kind: kind, Path: "/n1", To: "/n1"}, api.EEXIST}})
	}
}

// P13.2: what else is asked of what is made.
func TestRefusedMakes(t *testing.T) {
	v := town()
	for _, kind := range []int{api.CMkdir, api.CCreate, api.CSymlink} {
		refused(t, v, []asked{
			{api.Call{Kind: kind, Path: "/n", To: "t", Time: math.NaN()}, api.EINVAL},
			{api.Call{Kind: kind, Path: "/n", To: "t", N: -1}, api.EINVAL},
			{api.Call{Kind: kind, Path: "/n", To: "t", N: 512}, api.EINVAL},
			{api.Call{Kind: kind, Path: "/n", To: "t", N: math.MinInt}, api.EINVAL},
			{api.Call{Kind: kind, Path: "/n", To: "t", N: 511, Time: math.Inf(-1)}, api.OK},
		})
	}
	full := crowd(api.MaxNodes, api.MaxLinks)
	refused(t, v, []asked{
		{api.Call{Kind: api.CSymlink, Path: "/n"}, api.EINVAL},
		{api.Call{Kind: api.CSymlink, Path: "/n", To: long[:120]}, api.OK},
		{api.Call{Kind: api.CSymlink, Path: "/n", To: long}, api.ENAMETOOLONG},
		{api.Call{Kind: api.CSymlink, Path: "/n", To: long, N: 512}, api.EINVAL},
		{api.Call{Kind: api.CSymlink, Path: "/n", To: long, Time: math.NaN()}, api.EINVAL},
		{api.Call{Kind: api.CMkdir, Path: "/n", To: long}, api.OK},
		{api.Call{Kind: api.CCreate, Path: "/n", To: long}, api.OK},
	})
	refused(t, full, []asked{
		{api.Call{Kind: api.CSymlink, Path: "/n", To: long}, api.ENAMETOOLONG},
		{api.Call{Kind: api.CSymlink, Path: "/n"}, api.EINVAL},
		{api.Call{Kind: api.CMkdir, Path: "/n", N: 512}, api.EINVAL},
		{api.Call{Kind: api.CCreate, Path: "/n", Time: math.NaN()}, api.EINVAL},
		{api.Call{Kind: api.CLink, Path: "/n1", To: "/.lost"}, api.EPERM},
		{api.Call{Kind: api.CLink, Path: "/n2", To: "/n1"}, api.EEXIST},
		{api.Call{Kind: api.CLink, Path: "/", To: "/n"}, api.EPERM},
	})
}

// crowd is a state of so many inodes, the root among them, and so many links; none of those that are too many shows.
func crowd(nodes, all int) api.State {
	v := facts.Empty()
	v.Seen = api.Vector{1: 1000}
	for i := 1; i < nodes; i++ {
		v.Nodes = append(v.Nodes, inode(stamp(i, 1)))
	}
	for i := 1; i <= all; i++ {
		l := link(stamp(i, 1), stamp(1+(i-1)%max(nodes-1, 1), 1), root, "n"+strconv.Itoa(i))
		if i > 3 {
			l.Dead = v.Seen
		}
		v.Links = append(v.Links, l)
	}
	return v
}

// P13.2: how many inodes and links there may be, shown or not; just what makes more of them asks.
func TestRefusedRoom(t *testing.T) {
	for _, c := range []struct {
		nodes, links int
		make, link   api.Errno
	}{
		{59, 79, api.OK, api.OK}, {60, 79, api.ENOSPC, api.OK}, {61, 79, api.ENOSPC, api.ENOSPC}, {59, 80, api.ENOSPC, api.ENOSPC},
		{60, 60, api.ENOSPC, api.OK}, {2, 79, api.OK, api.OK}, {2, 80, api.ENOSPC, api.ENOSPC}, {61, 1, api.ENOSPC, api.ENOSPC},
		{480, 3, api.ENOSPC, api.ENOSPC}, {4, 640, api.ENOSPC, api.ENOSPC}, {480, 640, api.ENOSPC, api.ENOSPC}, {2, 81, api.ENOSPC, api.ENOSPC},
	} {
		v := crowd(c.nodes, c.links)
		refused(t, v, []asked{
			{api.Call{Kind: api.CMkdir, Path: "/n"}, c.make}, {api.Call{Kind: api.CCreate, Path: "/n"}, c.make},
			{api.Call{Kind: api.CSymlink, Path: "/n", To: "t"}, c.make}, {api.Call{Kind: api.CLink, Path: "/n1", To: "/n"}, c.link},
			{api.Call{Kind: api.CRename, Path: "/n1", To: "/n"}, api.OK}, {api.Call{Kind: api.CUnlink, Path: "/n1"}, api.OK},
			{api.Call{Kind: api.CWrite, Path: "/n1", Data: "d"}, api.OK}, {api.Call{Kind: api.CSetx, Path: "/n1", To: "x"}, api.OK},
		})
	}
}

// P13.2: what is asked of what is linked, unlinked, placed elsewhere.
func TestRefusedNames(t *testing.T) {
	v := town()
	refused(t, v, []asked{
		{api.Call{Kind: api.CLink, Path: "/d", To: "/f"}, api.EPERM},
		{api.Call{Kind: api.CLink, Path: "/", To: ""}, api.EPERM},
		{api.Call{Kind: api.CLink, Path: "/.lost", To: "/n"}, api.EPERM},
		{api.Call{Kind: api.CLink, Path: "/.lost/c5-0", To: "/n"}, api.EPERM},
		{api.Call{Kind: api.CLink, Path: "/none", To: "/f"}, api.ENOENT},
		{api.Call{Kind: api.CUnlink, Path: "/"}, api.EBUSY},
		{api.Call{Kind: api.CUnlink, Path: "/.lost"}, api.EBUSY},
		{api.Call{Kind: api.CUnlink, Path: "/d"}, api.EISDIR},
		{api.Call{Kind: api.CUnlink, Path: "/empty"}, api.EISDIR},
		{api.Call{Kind: api.CUnlink, Path: "/gone"}, api.ENOENT},
		{api.Call{Kind: api.CRmdir, Path: "/"}, api.EBUSY},
		{api.Call{Kind: api.CRmdir, Path: "/.lost"}, api.EBUSY},
		{api.Call{Kind: api.CRmdir, Path: "/f"}, api.ENOTDIR},
		{api.Call{Kind: api.CRmdir, Path: "/s"}, api.ENOTDIR},
		{api.Call{Kind: api.CRmdir, Path: "/d"}, api.ENOTEMPTY},
		{api.Call{Kind: api.CRmdir, Path: "/ghost"}, api.ENOTEMPTY},
		{api.Call{Kind: api.CRmdir, Path: "/.lost/c5-0"}, api.ENOTEMPTY},
		{api.Call{Kind: api.CRmdir, Path: "/.lost/c9-0"}, api.ENOTEMPTY},
		{api.Call{Kind: api.CRmdir, Path: "/.lost/c9-0/m"}, api.ENOTEMPTY}, // the other one of the round is placed in it
		{api.Call{Kind: api.CRename, Path: "/", To: "/"}, api.EBUSY},
		{api.Call{Kind: api.CRename, Path: "/.lost", To: ""}, api.EBUSY},
		{api.Call{Kind: api.CRename, Path: "/.lost", To: "/.lost"}, api.EBUSY},
		{api.Call{Kind: api.CRename, Path: "/none", To: ""}, api.ENOENT},
		{api.Call{Kind: api.CRename, Path: "/d", To: "/d/n"}, api.EINVAL},
		{api.Call{Kind: api.CRename, Path: "/d", To: "/d/e"}, api.EINVAL},
		{api.Call{Kind: api.CRename, Path: "/d", To: "/d/e/n"}, api.EINVAL},
		{api.Call{Kind: api.CRename, Path: "/d", To: "/d/e/k"}, api.EINVAL},
		{api.Call{Kind: api.CRename, Path: "/.lost/c9-0", To: "/.lost/c9-0/m/n"}, api.EINVAL},
		{api.Call{Kind: api.CRename, Path: "/d", To: "/d/none/n"}, api.ENOENT},
		{api.Call{Kind: api.CRename, Path: "/d", To: "/.lost/d"}, api.EPERM},
		{api.Call{Kind: api.CRename, Path: "/f", To: "/f/n"}, api.ENOTDIR},
		{api.Call{Kind: api.CRename, Path: "/f", To: "/d"}, api.EISDIR},
		{api.Call{Kind: api.CRename, Path: "/f", To: "/empty"}, api.EISDIR},
		{api.Call{Kind: api.CRename, Path: "/d", To: "/f"}, api.ENOTDIR},
		{api.Call{Kind: api.CRename, Path: "/d", To: "/s"}, api.ENOTDIR},
		{api.Call{Kind: api.CRename, Path: "/empty", To: "/d"}, api.ENOTEMPTY},
		{api.Call{Kind: api.CRename, Path: "/d/e", To: "/d"}, api.ENOTEMPTY},
		{api.Call{Kind: api.CRename, Path: "/empty", To: "/ghost"}, api.ENOTEMPTY},
		{api.Call{Kind: api.CRename, Path: "/empty", To: "/.lost/c9-0/m"}, api.ENOTEMPTY},
		{api.Call{Kind: api.CRename, Path: "/.lost/c5-0", To: "/d"}, api.ENOTEMPTY},
	})
}

// P13.2: what is asked of what is written to, and read.
func TestRefusedBytes(t *testing.T) {
	v := town()
	big := strings.Repeat("d", 1025)
	for _, kind := range []int{api.CWrite, api.CTruncate, api.CRead} {
		for path, want := range map[string]api.Errno{"/": api.EISDIR, "/d": api.EISDIR, "/.lost": api.EISDIR, "/.lost/c5-0": api.EISDIR, "/s": api.EINVAL} {
			refused(t, v, []asked{{api.Call{Kind: kind, Path: path, Off: -1, N: -1}, want}, {api.Call{Kind: kind, Path: path, Off: 2000, N: 2000, Data: big}, want}})
		}
	}
	refused(t, v, []asked{
		{api.Call{Kind: api.CWrite, Path: "/f", Off: -1, Data: big}, api.EINVAL},
		{api.Call{Kind: api.CWrite, Path: "/f", Off: -1}, api.EINVAL},
		{api.Call{Kind: api.CWrite, Path: "/f", Off: math.MinInt, Data: "d"}, api.EINVAL},
		{api.Call{Kind: api.CWrite, Path: "/f", Data: big[:1024]}, api.OK},
		{api.Call{Kind: api.CWrite, Path: "/f", Data: big}, api.EFBIG},
		{api.Call{Kind: api.CWrite, Path: "/f", Off: 1, Data: big[:1024]}, api.EFBIG},
		{api.Call{Kind: api.CWrite, Path: "/f", Off: 1023, Data: "d"}, api.OK},
		{api.Call{Kind: api.CWrite, Path: "/f", Off: 1024, Data: "d"}, api.EFBIG},
		{api.Call{Kind: api.CWrite, Path: "/f", Off: 1024}, api.OK},
		{api.Call{Kind: api.CWrite, Path: "/f", Off: 1025}, api.EFBIG},
		{api.Call{Kind: api.CWrite, Path: "/f", Off: math.MaxInt, Data: "d"}, api.EFBIG},
		{api.Call{Kind: api.CTruncate, Path: "/f", N: -1}, api.EINVAL},
		{api.Call{Kind: api.CTruncate, Path: "/f", N: math.MinInt}, api.EINVAL},
		{api.Call{Kind: api.CTruncate, Path: "/f", N: 1024}, api.OK},
		{api.Call{Kind: api.CTruncate, Path: "/f", N: 1025}, api.EFBIG},
		{api.Call{Kind: api.CTruncate, Path: "/f", N: math.MaxInt}, api.EFBIG},
		{api.Call{Kind: api.CRead, Path: "/f", Off: -1}, api.EINVAL},
		{api.Call{Kind: api.CRead, Path: "/f", N: -1}, api.EINVAL},
	})
}

// P13.2: what is asked of whose mode, time or xattrs are set, and told.
func TestRefusedAttrs(t *testing.T) {
	v := town()
	for _, kind := range []int{api.CChmod, api.CUtime, api.CSetx, api.CDelx, api.CGetx, api.CListx} {
		refused(t, v, []asked{{api.Call{Kind: kind, Path: "/.lost", N: -1, Time: math.NaN()}, api.EPERM}, {api.Call{Kind: kind, Path: "/.lost", To: "a"}, api.EPERM}})
	}
	for _, kind := range []int{api.CSetx, api.CDelx} {
		for to, want := range map[string]api.Errno{"": api.EINVAL, "..": api.EINVAL, "a/b": api.EINVAL, strings.Repeat("n", 17): api.ENAMETOOLONG} {
			refused(t, v, []asked{{api.Call{Kind: kind, Path: "/f", To: to, Data: long}, want}})
		}
	}
	refused(t, v, []asked{
		{api.Call{Kind: api.CChmod, Path: "/f", N: -1}, api.EINVAL},
		{api.Call{Kind: api.CChmod, Path: "/f", N: 512}, api.EINVAL},
		{api.Call{Kind: api.CChmod, Path: "/f", N: 511}, api.OK},
		{api.Call{Kind: api.CUtime, Path: "/f", Time: math.NaN()}, api.EINVAL},
		{api.Call{Kind: api.CSetx, Path: "/f", To: "n", Data: long[:32]}, api.OK},
		{api.Call{Kind: api.CSetx, Path: "/f", To: "n", Data: long[:33]}, api.EFBIG},
		{api.Call{Kind: api.CDelx, Path: "/f", To: "n"}, api.ENODATA},
		{api.Call{Kind: api.CDelx, Path: "/f", To: "b"}, api.ENODATA},
		{api.Call{Kind: api.CDelx, Path: "/", To: "a"}, api.ENODATA},
		{api.Call{Kind: api.CGetx, Path: "/f", To: "n"}, api.ENODATA},
		{api.Call{Kind: api.CGetx, Path: "/f", To: "b"}, api.ENODATA},
		{api.Call{Kind: api.CGetx, Path: "/f", To: ""}, api.ENODATA},
		{api.Call{Kind: api.CGetx, Path: "/f", To: strings.Repeat("n", 17)}, api.ENODATA},
		{api.Call{Kind: api.CGetx, Path: "/", To: "a"}, api.ENODATA},
		{api.Call{Kind: api.CList, Path: "/f"}, api.ENOTDIR},
		{api.Call{Kind: api.CList, Path: "/s"}, api.ENOTDIR},
		{api.Call{Kind: api.CReadlink, Path: "/f"}, api.EINVAL},
		{api.Call{Kind: api.CReadlink, Path: "/"}, api.EINVAL},
		{api.Call{Kind: api.CReadlink, Path: "/.lost"}, api.EINVAL},
	})
}

// P13.2: how many xattrs there may be, those that are gone among them.
func TestRefusedXattrs(t *testing.T) {
	set := func(name string) api.Call { return api.Call{Kind: api.CSetx, Path: "/f", To: name, Data: "v"} }
	v := town() // of three
	_, out := do(t, v, set("c"))
	v = join.States(v, out)
	refused(t, v, []asked{
		{set("d"), api.ENOSPC}, {set("a"), api.OK}, {set("b"), api.OK}, {set("z"), api.OK},
		{api.Call{Kind: api.CSetx, Path: "/f", To: "d", Data: long}, api.EFBIG}, {api.Call{Kind: api.CSetx, Path: "/d", To: "d"}, api.OK},
	})
	_, out = do(t, v, api.Call{Kind: api.CDelx, Path: "/f", To: "a"})
	v = join.States(v, out)
	refused(t, v, []asked{{set("d"), api.ENOSPC}, {set("a"), api.OK}, {set("c"), api.OK}})
	for i := range 28 {
		v.Nodes[3].Xattrs = append(v.Nodes[3].Xattrs, api.Xattr{Name: "zz" + string(rune('A'+i)), At: f})
	}
	refused(t, v, []asked{{set("d"), api.ENOSPC}, {set("zzA"), api.OK}, {api.Call{Kind: api.CDelx, Path: "/f", To: "zzB"}, api.OK}})
}
