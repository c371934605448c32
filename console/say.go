package console

import (
	"strconv"
	"strings"

	"crannog/api"
	"crannog/script"
)

const (
	done  = "ok"
	names = "names" // ahead of a directory's, and of xattrs'
)

// step does a step: what it answers.
func (c *console) step(line string) []string {
	s, err := script.Line(line)
	refuse(err)
	ask(c.world != nil, api.ENIL)
	ans := c.world.Step(s)
	refuse(ans.Err)
	if s.Kind == api.SCall {
		return []string{answered(s.Call.Kind, ans)}
	}
	return []string{done}
}

// answered is what a call that is done answers.
func answered(kind int, ans api.Answer) string {
	switch kind {
	case api.CRead, api.CReadlink, api.CGetx:
		return said("data", script.Word(ans.Data))
	case api.CList, api.CListx:
		return listed(names, ans.Names)
	case api.CStat:
		return stat(ans.Stat)
	}
	return done
}

func stat(s api.Stat) string {
	return said("stat", nodeWord(s.Kind), "mode="+number(s.Mode), "size="+number(s.Size), "links="+number(s.Links),
		"node="+number(s.Node.Time)+"."+number(s.Node.Who))
}

// said is words as a line; an empty one has its blank, too.
func said(words ...string) string { return strings.Join(words, blank) }

// listed is a word, and texts behind it.
func listed(word string, l []string) string {
	var b strings.Builder
	b.WriteString(word)
	for _, s := range l {
		b.WriteString(blank + script.Word(s))
	}
	return b.String()
}

// used is how much there is of a volume.
func used(files, dirs, syms, bytes int) string {
	return said("files", number(files), "dirs", number(dirs), "syms", number(syms), "bytes", number(bytes))
}

func failed(err api.Errno) string { return said("error", number(int(err))) }

func number(n int) string { return strconv.Itoa(n) }

func yes(ok bool) string {
	if ok {
		return "yes"
	}
	return "no"
}

// nodeWord is what an inode of a kind is called; volWord a volume.
func nodeWord(kind int) string {
	switch kind {
	case api.File:
		return "file"
	case api.Dir:
		return "dir"
	}
	return "sym"
}

func volWord(kind int) string {
	switch kind {
	case api.VolMain:
		return "main"
	case api.VolSnap:
		return "snap"
	}
	return "clone"
}
