package msg

import (
	"strconv"
	"strings"

	"crannog/api"
)

// Seen is a vector as text: its numbers, up to the last one that is not 0.
func Seen(v api.Vector) string {
	last := len(v)
	for last > 0 && v[last-1] == 0 {
		last--
	}
	var l []string
	for _, n := range v[:last] {
		l = append(l, strconv.Itoa(n))
	}
	return strings.Join(l, ",")
}

// Text is a message as a line.
func Text(m api.Msg) string {
	k := kindOf(m.Kind)
	l := []string{k.word, pair(m.From, ">", m.To), "v" + strconv.Itoa(m.Vol), "seen=" + Seen(m.Seen)}
	if k.base {
		l = append(l, "base="+markText(m.Base))
	}
	if k.mark {
		l = append(l, "mark="+markText(m.Mark))
	}
	switch m.Kind {
	case api.MAsk:
		l = append(l, "from="+strconv.Itoa(m.Index))
	case api.MPart:
		l = append(l, "part="+pair(m.Index, "/", m.Total), "bytes="+strconv.Itoa(len(m.Data)))
	}
	return strings.Join(l, " ")
}

func markText(k api.Mark) string { return pair(k.Boot, ".", k.N) }

// pair is two numbers with a sign between.
func pair(a int, sign string, b int) string { return strconv.Itoa(a) + sign + strconv.Itoa(b) }
