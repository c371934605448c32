package console_test

import (
	"strings"
	"testing"

	"crannog/api"
	"crannog/console"
)

// run holds what a text puts out against lines.
func run(t *testing.T, text string, want ...string) {
	t.Helper()
	got := console.Run(text)
	all := ""
	for _, line := range want {
		all += line + "\n"
	}
	if got == all {
		return
	}
	l := strings.Split(got, "\n")
	for i, line := range want {
		if i >= len(l) || l[i] != line {
			t.Fatalf("%.60q: line %d of what is put out: %q, want %q", text, i+1, strings.Join(l[min(i, len(l)):min(i+1, len(l))], ""), line)
		}
	}
	t.Fatalf("%.60q: more is put out: %q", text, l[len(want):])
}

// lines is a text of lines.
func lines(l ...string) string { return strings.Join(l, "\n") + "\n" }

// P24.1: the document's example; no text puts out nothing
func TestExample(t *testing.T) {
	run(t, "world 2 1 300\ncall 0 v0 mkdir /a 493 0\nshow 0 v0\n", "ok", "ok", "dir /.lost", "dir /a")
	run(t, "world 2 1 300\ncall 0 v0 mkdir /a 493 0\nshow 0 v0", "ok", "ok", "dir /.lost", "dir /a")
	run(t, "")
	run(t, "\n\n# world 2 1 300\n#\n")
	for range 2 { // one text knows nothing of another one's world
		run(t, "net\n\nworld 2 1 300\n# net\nnet", "error 200", "ok", "net 0 of 0 lost 0")
	}
}

// P24.1: a text has 32768 bytes at most, a line of it 200
func TestTooLong(t *testing.T) {
	rest := strings.Repeat("#", api.MaxScript-len("net\n"))
	run(t, "net\n"+rest, "error 200")
	run(t, "net\n"+rest+"#", "error 203")
	run(t, strings.Repeat("\n", api.MaxScript+1), "error 203")
	run(t, strings.Repeat("net ", api.MaxScript), "error 203")
	const world, find = "world 2 1 300\n", "find 0 v0 "
	run(t, world+find+strings.Repeat("*", api.MaxLine-len(find)), "ok", "found /.lost")
	run(t, world+find+strings.Repeat("*", api.MaxLine-len(find)+1), "ok", "error 205")
	run(t, world+"#"+strings.Repeat("*", api.MaxLine), "ok")
	const list = "call 0 v0 list /"
	run(t, world+list+strings.Repeat("a", api.MaxLine-len(list)), "ok", "error 36")
	run(t, world+list+strings.Repeat("a", api.MaxLine-len(list)+1), "ok", "error 205")
}

// P24.1: what words a line has is looked at first, whether there is a world then, what is done behind both
func TestWords(t *testing.T) {
	const world = "world 2 1 300\n"
	for line, known := range map[string]string{
		"calm 0": "calm", "net": "net 0 of 0 lost 0", "peek 0": "error 2", "equal 0": "yes", "vols 0": "main v0 seen=", "check 0": "rep 0 boot 1 gen 2",
		"show 0 v0": "dir /.lost", "seen 0 v0": "seen ", "usage 0 v0": "files 0 dirs 0 syms 0 bytes 0", "find 0 v0 *": "found /.lost", "newest 0 v0 /": "names .lost", "right 0 v0": "yes",
		"world 2 1 300": "ok",
	} {
		got := strings.TrimPrefix(console.Run(world+line), "ok\n")
		if !strings.HasPrefix(got, known+"\n") {
			t.Errorf("%s: %q, want %q", line, got, known)
		}
		if line == strings.TrimSpace(world) {
			run(t, line, "ok")
		} else {
			run(t, line, "error 200")
		}
		words := strings.Split(line, " ")
		bad := []string{line + " ", line + " x", line + "  ", line + " 0 0 0", line + "\t", line + "\r"}
		if last := words[len(words)-1]; last != "0" && last != "300" && len(words) > 1 {
			bad = bad[:4] // a text's sign behind it is its own
		}
		for i := range words[1:] {
			bad = append(bad, strings.Join(words[:i+1], " "))
		}
		for i, word := range words {
			if word != "0" && word != "300" && word != "2" && word != "1" {
				continue
			}
			for _, none := range []string{"", "x", "-", "-0", "00", "+1", "1.0", "9223372036854775808", "-9223372036854775809", "%30", "v0"} {
				with := append([]string{}, words...)
				with[i] = none
				bad = append(bad, strings.Join(with, " "))
			}
		}
		bad = append(bad, " "+line, strings.ToUpper(line), strings.Replace(line+" ", " ", "  ", 1), strings.Replace(line+" ", " ", "\t", 1))
		for _, b := range bad {
			run(t, b, "error 205")
			run(t, world+b, "ok", "error 205")
		}
	}
	for _, line := range []string{"fly", "x", " ", "  ", "call", "call 0 v0 list", "commit", "commit x", "commit 0 ", " commit 0", "crash 0  1", "tick 0 0", "call 0 v0 list /%2f", "snap 0 v0  s", "nets", "ne", "net#", " # x", "show0 v0", "error 205", "\x00", "\xff"} {
		run(t, line, "error 205")
		run(t, world+line, "ok", "error 205")
	}
	run(t, "commit 0\ncall 9 v9 list /\ndeliver 0", "error 200", "error 200", "error 200")
}

// P24.1: world
func TestWorld(t *testing.T) {
	run(t, lines("world 1 1 300", "net", "world 9 1 300", "world 2 0 300", "world 2 4 300", "world 2 1 7", "world 2 1 4097", "world -2 1 300", "world 2 1 8", "world 9223372036854775807 1 300", "net"),
		"error 22", "error 200", "error 22", "error 22", "error 22", "error 22", "error 22", "error 22", "error 28", "error 22", "error 200")
	run(t, lines("world 8 3 4096", "tick 7", "net", "world 1 1 300", "net", "world 2 1 300", "net", "show 7 v0", "show 1 v0", "show 1 v1"),
		"ok", "ok", "net 21 of 21 lost 0", "error 22", "net 21 of 21 lost 0", "ok", "net 0 of 0 lost 0", "error 22", "dir /.lost", "error 2")
}

// P24.1: a step's
func TestStep(t *testing.T) {
	run(t, lines("world 2 1 600",
		"call 0 v0 create /a%20b 420 7", "call 0 v0 write /a%20b 0 %25%0a", "call 0 v0 read /a%20b 0 9", "call 0 v0 read /a%20b 9 9", "call 0 v0 read /a%20b -1 9",
		"call 0 v0 symlink /s a%20b 511 none", "call 0 v0 symlink /s a%20b 511 0", "call 0 v0 readlink /s", "call 0 v0 readlink /a%20b",
		"call 0 v0 setx /s k%ff %", "call 0 v0 getx /s k%ff", "call 0 v0 setx /s a v%3d1", "call 0 v0 getx /s a", "call 0 v0 listx /s", "call 0 v0 listx /", "call 0 v0 getx /s b",
		"call 0 v0 list /", "call 0 v0 list /.lost", "call 0 v0 list /s",
		"call 0 v0 stat /", "call 0 v0 stat /.lost", "call 0 v0 stat /s", "call 0 v0 link /a%20b /c", "call 0 v0 stat /c", "call 0 v0 stat /x",
		"call 9 v0 list /", "call 0 v1 list /", "call 0 v0 rename /c /c",
	), "ok",
		"ok", "ok", "data %25%0a", "data %", "error 22",
		"error 22", "ok", "data a%20b", "error 22",
		"ok", "data %", "ok", "data v%3d1", "names a k%ff", "names", "error 61",
		"names .lost a%20b s", "names", "error 20",
		"stat dir mode=493 size=0 links=1 node=0.0", "stat dir mode=0 size=0 links=1 node=0.1", "stat sym mode=511 size=3 links=1 node=3.0", "ok", "stat file mode=420 size=2 links=2 node=1.0", "error 2",
		"error 22", "error 2", "ok")
	run(t, lines("world 2 1 600", "commit 0", "commit 2", "snap 0 v0 s", "snap 0 v0 s", "clone 0 s c", "call 0 s mkdir /a 0 0", "call 0 c mkdir /a 0 0", "call 0 s stat /",
		"delete 0 s", "delete 0 v0", "fuse 0 0", "commit 0", "commit 0", "crash 0 0 1 2", "start 0", "start 0", "show 0 c", "prune 0 v0", "prune 0 c", "deliver 0", "drop 0", "double 0", "tick 1", "net", "double 0", "drop 0", "deliver 0", "net"),
		"ok", "ok", "error 22", "ok", "error 17", "ok", "error 30", "ok", "stat dir mode=493 size=0 links=1 node=0.0",
		"ok", "error 1", "ok", "error 5", "error 5", "ok", "ok", "error 16", "error 2", "error 16", "error 2", "error 2", "error 2", "error 2", "ok", "net 1 of 1 lost 0", "ok", "ok", "ok", "net 1 of 2 lost 1")
}

// P24.1: calm, net, peek, equal
func TestAmong(t *testing.T) {
	run(t, lines("world 3 2 600", "call 0 v0 mkdir /a 0 0", "equal 0", "equal 1", "equal 2", "equal -1", "calm 0", "equal 0", "calm -9223372036854775808", "equal 0", "calm 1", "equal 0", "calm 9223372036854775807", "equal 0", "net"),
		"ok", "ok", "no", "yes", "yes", "yes", "calm", "no", "calm", "no", "calm", "yes", "calm", "yes", "net 0 of 240 lost 0")
	run(t, lines("world 3 2 600", "calm 9", "net", "calm 10", "net", "calm -1", "net"), "ok", "calm", "net 0 of 216 lost 0", "calm", "net 0 of 432 lost 0", "calm", "net 0 of 432 lost 0")
	run(t, lines("world 2 1 600", "call 0 v0 mkdir /a 0 0", "commit 0", "tick 1", "peek 0", "peek 1", "peek -1", "peek 9223372036854775807", "deliver 0", "peek 0", "deliver 0", "tick 0", "tick 1", "peek 1", "drop 1", "drop 0", "net"),
		"ok", "ok", "ok", "ok", "ask 1>0 v0 seen= base=0.0 mark=0.0 from=0", "error 2", "error 2", "error 2", "ok", "part 0>1 v0 seen=1 base=0.0 mark=1.1 part=0/1 bytes=275", "ok", "ok", "ok", "ask 1>0 v0 seen=1 base=1.1 mark=0.0 from=0", "ok", "ok", "net 0 of 4 lost 2")
	// Where there is no room all is not calm.
	l := []string{"world 2 1 130"}
	want := []string{"ok"}
	for i := range 12 {
		n := string(rune('a' + i))
		l = append(l, "call 0 v0 create /"+n+" 0 0", "call 0 v0 write /"+n+" 0 "+strings.Repeat(n, 100))
		want = append(want, "ok", "ok")
	}
	run(t, lines(append(l, "calm 4", "equal 0")...), append(want, "not calm", "no")...)
}

// P24.1: vols, check
func TestOfReplica(t *testing.T) {
	run(t, lines("world 3 2 600", "call 2 v1 create /f 0 0", "call 2 v1 write /f 9 x", "snap 2 v1 a%3d", "clone 2 a%3d z", "snap 2 v0 s", "call 2 v1 symlink /s x 0 0", "call 2 v1 unlink /f", "call 2 z mkdir /d 0 0",
		"vols 2", "check 2", "commit 2", "check 2", "vols 0", "vols 3", "vols -1", "check 3", "check -1"),
		"ok", "ok", "ok", "ok", "ok", "ok", "ok", "ok", "ok",
		"snap a%3d seen=0,0,2", "snap s seen=", "main v0 seen=", "main v1 seen=0,0,4", "clone z seen=0,0,3",
		"rep 2 boot 1 gen 2", "vol v0 files 0 dirs 0 syms 0 bytes 0 dead 0", "vol v1 files 0 dirs 0 syms 0 bytes 0 dead 0",
		"ok",
		"rep 2 boot 1 gen 3", "vol a%3d files 1 dirs 0 syms 0 bytes 10 dead 0", "vol s files 0 dirs 0 syms 0 bytes 0 dead 0", "vol v0 files 0 dirs 0 syms 0 bytes 0 dead 0", "vol v1 files 0 dirs 0 syms 1 bytes 0 dead 1", "vol z files 1 dirs 1 syms 0 bytes 10 dead 0",
		"main v0 seen=", "main v1 seen=", "error 22", "error 22", "error 22", "error 22")
	// A commit that came to its last flush: what it wrote is lost in the crash that is looked behind, and there if it is kept.
	run(t, lines("world 2 1 600", "call 0 v0 mkdir /a 0 0", "fuse 0 2", "commit 0", "check 0", "crash 0 1", "start 0", "check 0"),
		"ok", "ok", "ok", "error 5", "rep 0 boot 1 gen 2", "vol v0 files 0 dirs 0 syms 0 bytes 0 dead 0", "ok", "ok", "rep 0 boot 2 gen 4", "vol v0 files 0 dirs 1 syms 0 bytes 0 dead 0")
	// Without power there is nothing to be asked for; a device is looked through as it would be with it again.
	run(t, lines("world 2 1 600", "call 0 v0 mkdir /a 0 0", "check 0", "show 0 v0", "fuse 0 1", "commit 0", "check 0", "vols 0", "check 0", "crash 0", "vols 0", "check 0", "start 0", "vols 0", "check 0"),
		"ok", "ok", "rep 0 boot 1 gen 2", "vol v0 files 0 dirs 0 syms 0 bytes 0 dead 0", "dir /.lost", "dir /a", "ok", "error 5",
		"rep 0 boot 1 gen 2", "vol v0 files 0 dirs 0 syms 0 bytes 0 dead 0", "error 5", "rep 0 boot 1 gen 2", "vol v0 files 0 dirs 0 syms 0 bytes 0 dead 0", "ok", "error 5", "rep 0 boot 1 gen 2", "vol v0 files 0 dirs 0 syms 0 bytes 0 dead 0",
		"ok", "main v0 seen=", "rep 0 boot 2 gen 3", "vol v0 files 0 dirs 0 syms 0 bytes 0 dead 0")
}

// P24.1: show, seen, usage, find, newest, right
func TestOfVolume(t *testing.T) {
	began := []string{"world 2 2 900", "call 0 v0 mkdir /d%20d 0 5", "call 0 v0 create /d%20d/f 0 6", "call 0 v0 write /d%20d/f 63 ab", "call 0 v0 symlink /d%20d/%3d x 0 ever", "call 0 v0 link /d%20d/f /g", "snap 0 v0 v2"}
	want := []string{"ok", "ok", "ok", "ok", "ok", "ok", "ok"}
	with := func(l ...string) string { return lines(append(append([]string{}, began...), l...)...) }
	all := func(l ...string) []string { return append(append([]string{}, want...), l...) }
	run(t, with("show 0 v0", "show 1 v0", "show 0 v2", "seen 0 v0", "seen 1 v0", "usage 0 v0", "usage 0 v1"),
		all("dir /.lost", "dir /d%20d", "sym /d%20d/%3d", "file /d%20d/f", "file /g", "dir /.lost", "dir /.lost", "dir /d%20d", "sym /d%20d/%3d", "file /d%20d/f", "file /g",
			"seen 5", "seen ", "files 1 dirs 1 syms 1 bytes 65", "files 0 dirs 0 syms 0 bytes 0")...)
	run(t, with("find 0 v0 *", "find 0 v0 ?", "find 0 v0 =", "find 0 v0 %3d", "find 0 v0 d%20d", "find 0 v0 d?d", "find 0 v0 ", "find 0 v0 /g", "find 1 v0 g"),
		all("found /.lost /d%20d /d%20d/%3d /d%20d/f /g", "found /d%20d/%3d /d%20d/f /g", "found /d%20d/%3d", "found", "found", "found /d%20d", "found", "found", "found")...)
	run(t, with("newest 0 v0 /", "newest 0 v0 /.lost", "newest 0 v0 /g", "newest 0 v0 /x", "newest 0 v0 ", "newest 0 v0 g", "newest 0 v0 /d%20d", "call 0 v0 rename /d%20d /d", "newest 0 v0 /d", "newest 0 v2 /d"),
		all("names g d%20d .lost", "names", "error 20", "error 2", "error 22", "error 22", "error 2", "ok", "names f %3d", "error 2")...)
	run(t, with("right 0 v0", "right 0 v1", "right 1 v1", "right 0 v2", "right 0 v3", "right 1 v2", "clone 0 v0 v3", "call 0 v3 unlink /g", "right 0 v3"),
		all("yes", "yes", "yes", "error 2", "error 2", "error 2", "ok", "ok", "error 2")...)
	for _, line := range []string{"show R V", "seen R V", "usage R V", "find R V *", "newest R V /", "right R V"} {
		of := func(rep, vol string) string {
			return strings.Replace(strings.Replace(line, "V", vol, 1), "R", rep, 1)
		}
		run(t, lines("world 2 1 600", of("2", "v0"), of("-1", "v0"), of("9223372036854775807", "v0"), of("0", "v1"), of("0", ""), of("0", "v%30"), of("0", "V0"), "crash 0", of("0", "v0"), of("0", "v9"), of("2", "v9")),
			"ok", "error 22", "error 22", "error 22", "error 2", "error 2", "error 2", "error 2", "ok", "error 5", "error 5", "error 22")
	}
}
