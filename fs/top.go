package fs

import (
	"crannog/api"
	"crannog/names"
	"crannog/octet"
)

const (
	noteHead = "F" // ahead of a note
	mainHead = "v" // ahead of the number of a volume that all replicas have
)

// Bytes of numbers.
const (
	whoWidth  = 1
	bootWidth = 6
	manyWidth = 1 // of how many volumes there are
	kindWidth = 1
)

// Top is what the block of all volumes says.
func Top(b api.Block) ([]api.Slot, api.Errno) {
	var l []api.Slot
	err := octet.Read([]byte(b.Data), func(e *octet.Eye) {
		demand(e, e.Num(manyWidth) == len(b.Kids))
		last := "" // stands below all names
		for _, root := range b.Kids {
			s := api.Slot{Name: e.Text(api.MaxName), Kind: e.Num(kindWidth), Root: root}
			demand(e, names.Good(s.Name) == api.OK && s.Name > last)
			demand(e, s.Kind >= api.VolMain && s.Kind <= api.VolClone)
			last = s.Name
			l = append(l, s)
		}
	})
	if err != api.OK {
		return nil, api.EFORM
	}
	return l, api.OK
}

// topOf is the block of all volumes, as Top reads it.
func topOf(vols []volume) api.Block {
	var roots []int
	data := octet.Put(nil, len(vols), manyWidth)
	for _, v := range vols {
		roots = append(roots, v.Root)
		data = octet.Put(octet.PutText(data, v.Name), v.Kind, kindWidth)
	}
	return api.Block{Kids: roots, Data: string(data)}
}

// Note is whose a file system is, and how often it was opened, as the store has it; Noted reads that.
func Note(who, boot int) string {
	b := octet.Put([]byte(noteHead), who, whoWidth)
	return string(octet.Put(b, boot, bootWidth))
}

func Noted(s string) (who, boot int, err api.Errno) {
	err = octet.Read([]byte(s), func(e *octet.Eye) {
		demand(e, e.Raw(len(noteHead)) == noteHead)
		who, boot = e.Num(whoWidth), e.Num(bootWidth)
		demand(e, isWho(who) && boot >= 1 && boot <= api.MaxTime)
	})
	if err != api.OK {
		return 0, 0, api.EFORM
	}
	return who, boot, api.OK
}

// demand ends a looking, unless what was seen can be.
func demand(e *octet.Eye, ok bool) {
	if !ok {
		e.Fail(api.EFORM)
	}
}

func isWho(who int) bool { return who >= 0 && who < api.MaxReps }

// Main is the name of a volume that all replicas have.
func Main(i int) string { return mainHead + string([]byte{'0' + byte(i)}) }
