package console_test

import (
	"fmt"
	"math/rand"
	"slices"
	"strconv"
	"strings"
	"testing"

	"crannog/api"
	"crannog/check"
	"crannog/cluster"
	"crannog/console"
	"crannog/fs"
	"crannog/model"
	"crannog/msg"
	"crannog/query"
	"crannog/script"
)

// machine is what the document says of lines, written once more.
type machine struct{ w *cluster.World }

func word(kind int, l ...string) string { return l[kind-1] }

func wrong(e api.Errno) []string { return []string{fmt.Sprintf("error %d", e)} }

func row(head string, l []string) []string {
	for _, s := range l {
		head += " " + script.Word(s)
	}
	return []string{head}
}

func (m *machine) step(line string) []string {
	s, err := script.Line(line)
	if err != api.OK {
		return wrong(api.ELINE)
	}
	if m.w == nil {
		return wrong(api.ENIL)
	}
	a := m.w.Step(s)
	if a.Err != api.OK {
		return wrong(a.Err)
	}
	if s.Kind != api.SCall || s.Call.Kind < api.CRead {
		return []string{"ok"}
	}
	switch s.Call.Kind {
	case api.CList, api.CListx:
		return row("names", a.Names)
	case api.CStat:
		return []string{fmt.Sprintf("stat %s mode=%d size=%d links=%d node=%d.%d", word(a.Stat.Kind, "file", "dir", "sym"), a.Stat.Mode, a.Stat.Size, a.Stat.Links, a.Stat.Node.Time, a.Stat.Node.Who)}
	}
	return []string{"data " + script.Word(a.Data)}
}

// line is what a line puts out.
func (m *machine) line(line string) []string {
	l := strings.Split(line, " ")
	form, ok := map[string]string{"world": "nnn", "calm": "n", "net": "", "peek": "n", "equal": "n", "vols": "n", "check": "n", "show": "nt", "seen": "nt", "usage": "nt", "find": "ntt", "newest": "ntt", "right": "nt"}[l[0]]
	if !ok {
		return m.step(line)
	}
	if len(l) != 1+len(form) || len(line) > api.MaxLine {
		return wrong(api.ELINE)
	}
	var n [3]int
	for i := range form {
		n[i], _ = strconv.Atoi(l[1+i])
		if form[i] == 'n' && strconv.Itoa(n[i]) != l[1+i] {
			return wrong(api.ELINE)
		}
	}
	if l[0] == "world" {
		w, err := cluster.New(n[0], n[1], n[2])
		if err != api.OK {
			return wrong(err)
		}
		m.w = w
		return []string{"ok"}
	}
	if m.w == nil {
		return wrong(api.ENIL)
	}
	if strings.HasPrefix(form, "nt") {
		return m.volume(n[0], l)
	}
	return m.other(l[0], n[0])
}

func (m *machine) other(what string, n int) (out []string) {
	yes := map[bool]string{true: "yes", false: "no"}
	switch what {
	case "calm":
		return []string{map[bool]string{true: "calm", false: "not calm"}[m.w.Calm(max(0, min(9, n)))]}
	case "net":
		on, sent, lost := m.w.Net()
		return []string{fmt.Sprintf("net %d of %d lost %d", on, sent, lost)}
	case "peek":
		k, err := m.w.Peek(n)
		if err != api.OK {
			return wrong(err)
		}
		return []string{msg.Text(k)}
	case "equal":
		return []string{yes[model.Equal(m.w, n)]}
	case "vols":
		if _, err := m.w.State(n, "v0"); err != api.OK {
			return wrong(err)
		}
		for _, v := range m.w.Vols(n) {
			out = append(out, fmt.Sprintf("%s %s seen=%s", word(v.Kind, "main", "snap", "clone"), script.Word(v.Name), msg.Seen(v.Seen)))
		}
	case "check":
		d := m.w.Device(n)
		if d == nil {
			return wrong(api.EINVAL)
		}
		d.Crash()
		d.Start()
		r, err := check.Device(d)
		if err != api.OK {
			return wrong(err)
		}
		out = append(out, fmt.Sprintf("rep %d boot %d gen %d", r.Who, r.Boot, r.Gen))
		for _, v := range r.Vols {
			out = append(out, fmt.Sprintf("vol %s files %d dirs %d syms %d bytes %d dead %d", script.Word(v.Name), v.Files, v.Dirs, v.Syms, v.Bytes, v.Dead))
		}
	}
	return out
}

func (m *machine) volume(rep int, l []string) (out []string) {
	s, err := m.w.State(rep, l[2])
	if err != api.OK {
		return wrong(err)
	}
	switch l[0] {
	case "show":
		for _, f := range query.Tree(s) {
			out = append(out, word(f.Kind, "file", "dir", "sym")+" "+script.Word(f.Path))
		}
	case "seen":
		return []string{"seen " + msg.Seen(s.Seen)}
	case "usage":
		files, dirs, syms, bytes := query.Usage(s)
		return []string{fmt.Sprintf("files %d dirs %d syms %d bytes %d", files, dirs, syms, bytes)}
	case "find":
		return row("found", query.Find(s, l[3]))
	case "newest":
		names, err := query.Newest(s, l[3])
		if err != api.OK {
			return wrong(err)
		}
		return row("names", names)
	case "right":
		_, vols := m.w.Size()
		for i := range vols {
			if l[2] == fs.Main(i) {
				return []string{map[bool]string{true: "yes", false: "no"}[model.Right(m.w, rep, i)]}
			}
		}
		return wrong(api.ENOENT)
	}
	return out
}

// writer writes any text, mostly of lines that come to something.
type writer struct {
	*rand.Rand
	reps, vols int
}

func (r *writer) path() string {
	p := ""
	for range 1 + r.Intn(3) {
		p += "/" + []string{"a", "b", "c =", "d%"}[r.Intn(4)]
	}
	switch r.Intn(14) {
	case 0:
		return "/"
	case 1:
		return fmt.Sprintf("/.lost/c%x-%d", 1+r.Intn(20), r.Intn(r.reps))
	case 2:
		return fmt.Sprintf("/.lost/c%x-%d", 1+r.Intn(20), r.Intn(r.reps)) + p
	}
	return p
}

func (r *writer) vol() string {
	if r.Intn(8) == 0 {
		return []string{"s", "t"}[r.Intn(2)]
	}
	return fs.Main(r.Intn(r.vols))
}

func (r *writer) call() api.Call {
	c := api.Call{Kind: 1 + r.Intn(19), Path: r.path(), To: r.path(), N: r.Intn(520), Off: r.Intn(80), Data: strings.Repeat("x", r.Intn(60)), Time: float64(r.Intn(4))}
	if r.Intn(2) == 0 {
		c.Kind = 1 + r.Intn(7)
	}
	if c.Kind >= api.CSetx && c.Kind != api.CRead {
		c.To = []string{"x", "y", "z="}[r.Intn(3)]
	}
	return c
}

func (r *writer) step() string {
	s := api.Step{Rep: r.Intn(r.reps), Vol: r.vol(), To: []string{"s", "t"}[r.Intn(2)]}
	switch n := r.Intn(100); {
	case n < 50:
		s.Kind, s.Call = api.SCall, r.call()
	case n < 57:
		s.Kind = api.STick
	case n < 77:
		s.Kind, s.N = api.SDeliver, r.Intn(6)*r.Intn(2)
	case n < 83:
		s.Kind = api.SCommit
	case n < 86:
		s.Kind = []int{api.SSnap, api.SClone, api.SDelete}[r.Intn(3)]
	case n < 89:
		s.Kind, s.N = []int{api.SDrop, api.SDouble}[r.Intn(2)], r.Intn(5)
	case n < 93:
		s.Kind = api.SPrune
	default:
		s.Kind = []int{api.SCrash, api.SFuse, api.SStart, api.SStart, api.SStart}[r.Intn(5)]
		s.N, s.Keep = r.Intn(12), r.Perm(30)[:r.Intn(30)]
	}
	line, _ := script.Text(s)
	return line
}

func (r *writer) line() string {
	rep := r.Intn(r.reps)
	if r.Intn(20) == 0 {
		rep = r.reps - 2*r.reps*r.Intn(2)
	}
	switch r.Intn(40) {
	case 0:
		return fmt.Sprintf("calm %d", r.Intn(4))
	case 1:
		return []string{"net", fmt.Sprintf("peek %d", r.Intn(8)), fmt.Sprintf("equal %d", r.Intn(r.vols))}[r.Intn(3)]
	case 2:
		return fmt.Sprintf("check %d", rep)
	case 3:
		return fmt.Sprintf("vols %d", rep)
	case 4, 5:
		return fmt.Sprintf("%s %d %s", []string{"show", "seen", "usage"}[r.Intn(3)], rep, r.vol())
	case 6:
		return fmt.Sprintf("find %d %s %s", rep, r.vol(), []string{"*", "?", "c*", "d%", "x", ""}[r.Intn(6)])
	case 7:
		return fmt.Sprintf("newest %d %s %s", rep, r.vol(), []string{"/", "/a", "/b", "/.lost", ""}[r.Intn(5)])
	case 8, 9, 10, 11:
		return fmt.Sprintf("right %d %s", rep, r.vol())
	case 12:
		b := []byte(r.line())
		b[r.Intn(len(b))] = " x0%#\xff"[r.Intn(6)]
		return string(b)
	}
	return r.step()
}

// text is lines of a world, or of two.
func text(seed, lines int) []string {
	r := &writer{Rand: rand.New(rand.NewSource(int64(seed)))}
	r.reps, r.vols = 2+r.Intn(3), 1+r.Intn(3)
	world := func() string {
		return fmt.Sprintf("world %d %d %d", r.reps, r.vols, []int{40, 60, 100, 300, 2000}[r.Intn(5)])
	}
	var l []string
	if r.Intn(4) == 0 {
		l = append(l, r.line(), "", "# "+r.line())
	}
	l = append(l, world())
	for range lines {
		l = append(l, r.line())
	}
	if r.Intn(4) == 0 {
		l = append(l, world(), r.line(), r.line(), r.line())
	}
	return l
}

// P24.1, P24.3: whatever a text says, each line puts out what the document says, right says yes, and what lies on a device is as it should be
func TestAny(t *testing.T) {
	t.Parallel()
	said := map[string]int{}
	for seed := range 400 {
		m := &machine{}
		var want []string
		l := text(seed, 150)
		for _, line := range l {
			if line == "" || line[0] == '#' {
				continue
			}
			out := m.line(line)
			want = append(want, out...)
			what := strings.Fields(line + " .")[0]
			said[what+" "+strings.SplitN(out[0], " ", 2)[0]]++
			said[out[0]]++
			switch {
			case what == "right" && out[0] == "no":
				t.Fatalf("seed %d: %s: no, of\n%s", seed, line, strings.Join(l, "\n"))
			case what == "check" && slices.Contains([]string{"error 5", "error 2"}, out[0]):
				t.Fatalf("seed %d: %s: %s, of\n%s", seed, line, out[0], strings.Join(l, "\n"))
			}
		}
		run(t, strings.Join(l, "\n"), want...)
	}
	for _, what := range []string{"right yes", "check rep", "vols main", "vols snap", "show dir", "seen seen", "usage files", "find found", "newest names", "calm calm", "calm not", "equal yes", "equal no", "net net", "peek ask", "peek part", "call stat", "call data", "call names", "call ok",
		"error 2", "error 5", "error 16", "error 17", "error 20", "error 21", "error 22", "error 28", "error 30", "error 39", "error 61", "error 116", "error 200", "error 205"} {
		if said[what] == 0 {
			t.Error("never:", what)
		}
	}
}

// P24.2: what a text's beginning puts out is the beginning of what it puts out
func TestOn(t *testing.T) {
	t.Parallel()
	for seed := range 40 {
		l := text(10000+seed, 50)
		all := console.Run(strings.Join(l, "\n"))
		was := ""
		for i := range l {
			for _, end := range []string{"", "\n", "\n\n# x\n"} {
				part := console.Run(strings.Join(l[:i], "\n") + end)
				if !strings.HasPrefix(all, part) || !strings.HasPrefix(part, was) {
					t.Fatalf("seed %d, %d lines: %q", seed, i, part)
				}
				was = part
			}
		}
	}
}

// T5: in quiet all know the same, as long as there is room
func TestInQuiet(t *testing.T) {
	t.Parallel()
	for seed := range 60 {
		l := text(20000+seed, 120)
		l[slices.IndexFunc(l, func(s string) bool { return strings.HasPrefix(s, "world") })] = "world 4 3 4000"
		if i := strings.LastIndex(strings.Join(l, "\n"), "world"); i > 20 {
			continue
		}
		got := console.Run(strings.Join(append(l, "calm 4", "equal 0", "equal 1", "equal 2", "right 0 v0", "right 1 v1"), "\n"))
		if !strings.HasSuffix(got, "\ncalm\nyes\nyes\nyes\nyes\nyes\n") {
			t.Error("seed", seed, got[max(0, len(got)-60):])
		}
	}
}
