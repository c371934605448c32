package console

import (
	"crannog/api"
	"crannog/check"
	"crannog/cluster"
	"crannog/fs"
	"crannog/model"
	"crannog/msg"
	"crannog/query"
	"crannog/script"
)

const worldWord = "world" // of the line that asks for no world

// order is a line that is no step: its word, what it has (n: a number, t: a text), and what it puts out.
type order struct {
	word, has string
	do        func(c *console, a args) []string
}

func orders() []order {
	return []order{
		{worldWord, "nnn", (*console).begin},
		{"calm", "n", (*console).calm},
		{"net", "", (*console).net},
		{"peek", "n", (*console).peek},
		{"equal", "n", (*console).equal},
		{"vols", "n", (*console).vols},
		{"check", "n", (*console).check},
		{"show", "nt", (*console).show},
		{"seen", "nt", (*console).seen},
		{"usage", "nt", (*console).usage},
		{"find", "ntt", (*console).find},
		{"newest", "ntt", (*console).newest},
		{"right", "nt", (*console).right},
	}
}

// begin has another world be there from now on, if it can be.
func (c *console) begin(a args) []string {
	w, err := cluster.New(a.numbers[0], a.numbers[1], a.numbers[2])
	refuse(err)
	c.world = w
	return []string{done}
}

// calm has all come to rest, as long as there are rounds.
func (c *console) calm(a args) []string {
	const most = 9
	if !c.world.Calm(min(max(a.numbers[0], 0), most)) {
		return []string{"not calm"}
	}
	return []string{"calm"}
}

func (c *console) net(args) []string {
	on, sent, lost := c.world.Net()
	return []string{said("net", number(on), "of", number(sent), "lost", number(lost))}
}

func (c *console) peek(a args) []string {
	m, err := c.world.Peek(a.numbers[0])
	refuse(err)
	return []string{msg.Text(m)}
}

func (c *console) equal(a args) []string {
	return []string{yes(model.Equal(c.world, a.numbers[0]))}
}

// vols asks for the first of the volumes that all have: whether there is such a replica, and it has power.
func (c *console) vols(a args) []string {
	rep := a.numbers[0]
	c.state(rep, fs.Main(0))
	var out []string
	for _, v := range c.world.Vols(rep) {
		out = append(out, said(volWord(v.Kind), script.Word(v.Name), "seen="+msg.Seen(v.Seen)))
	}
	return out
}

// check looks through what would be there, if the power went now.
func (c *console) check(a args) []string {
	d := c.world.Device(a.numbers[0])
	ask(d != nil, api.EINVAL)
	d.Crash()
	d.Start()
	r, err := check.Device(d)
	refuse(err)
	out := []string{said("rep", number(r.Who), "boot", number(r.Boot), "gen", number(r.Gen))}
	for _, v := range r.Vols {
		out = append(out, said("vol", script.Word(v.Name), used(v.Files, v.Dirs, v.Syms, v.Bytes), "dead", number(v.Dead)))
	}
	return out
}

// state is a volume's of a replica.
func (c *console) state(rep int, vol string) api.State {
	s, err := c.world.State(rep, vol)
	refuse(err)
	return s
}

// volume is the state of the volume that a line is about.
func (c *console) volume(a args) api.State { return c.state(a.numbers[0], a.texts[0]) }

func (c *console) show(a args) []string {
	var out []string
	for _, f := range query.Tree(c.volume(a)) {
		out = append(out, said(nodeWord(f.Kind), script.Word(f.Path)))
	}
	return out
}

func (c *console) seen(a args) []string {
	return []string{said("seen", msg.Seen(c.volume(a).Seen))}
}

func (c *console) usage(a args) []string { return []string{used(query.Usage(c.volume(a)))} }

func (c *console) find(a args) []string {
	return []string{listed("found", query.Find(c.volume(a), a.texts[1]))}
}

func (c *console) newest(a args) []string {
	l, err := query.Newest(c.volume(a), a.texts[1])
	refuse(err)
	return []string{listed(names, l)}
}

// right tells of a volume that all have whether it is what the events make.
func (c *console) right(a args) []string {
	c.volume(a)
	_, vols := c.world.Size()
	for i := range vols {
		if fs.Main(i) == a.texts[0] {
			return []string{yes(model.Right(c.world, a.numbers[0], i))}
		}
	}
	return []string{failed(api.ENOENT)}
}
