package batch

import (
	"crannog/api"
	"crannog/calls"
	"crannog/facts"
	"crannog/instant"
	"crannog/query"
)

// Undo is the calls that take a call back, once it is done: all that can be asked is as it was then; false: none do.
func Undo(s api.State, who int, c api.Call) ([]api.Call, bool) {
	if facts.Check(s) != api.OK {
		return nil, false
	}
	r := Do(s, who, []api.Call{c})
	if len(r.Deltas) == 0 { // it was refused, or comes to nothing
		return nil, false
	}
	ask := func(q api.Call) api.Answer {
		ans, _ := calls.Do(s, who, q)
		return ans
	}
	l := back(c, ask)
	if len(l) == 0 {
		return nil, false
	}
	then := Do(r.State, who, l)
	if then.Refused != done || query.Dump(then.State) != query.Dump(s) {
		return nil, false
	}
	return l, true
}

// back is what would take a call back that is done; ask tells what there was ahead of it.
func back(c api.Call, ask func(q api.Call) api.Answer) []api.Call {
	switch c.Kind {
	case api.CMkdir:
		return one(api.Call{Kind: api.CRmdir, Path: c.Path})
	case api.CCreate, api.CSymlink:
		return one(api.Call{Kind: api.CUnlink, Path: c.Path})
	case api.CLink:
		return one(api.Call{Kind: api.CUnlink, Path: c.To})
	case api.CRename:
		return one(api.Call{Kind: api.CRename, Path: c.To, To: c.Path})
	case api.CWrite, api.CTruncate:
		return bytes(c.Path, ask(api.Call{Kind: api.CRead, Path: c.Path, N: api.MaxSize}).Data)
	case api.CChmod, api.CUtime:
		return one(attr(c, ask(api.Call{Kind: api.CStat, Path: c.Path}).Stat))
	case api.CSetx, api.CDelx:
		return one(xattr(c, ask(api.Call{Kind: api.CGetx, Path: c.Path, To: c.To})))
	}
	return nil
}

func one(c api.Call) []api.Call { return []api.Call{c} }

// bytes is what has a file have just those.
func bytes(path, data string) []api.Call {
	l := one(api.Call{Kind: api.CTruncate, Path: path, N: len(data)})
	if data != "" {
		l = append(l, api.Call{Kind: api.CWrite, Path: path, Data: data})
	}
	return l
}

// attr is what sets the mode, or the time, that there was.
func attr(c api.Call, was api.Stat) api.Call {
	set := api.Call{Kind: c.Kind, Path: c.Path}
	if c.Kind == api.CChmod {
		set.N = was.Mode
	} else {
		set.Time, _ = instant.To(was.Time) // of a state that may be it is one
	}
	return set
}

// xattr is what has an xattr be as it was.
func xattr(c api.Call, was api.Answer) api.Call {
	if was.Err != api.OK { // there was none
		return api.Call{Kind: api.CDelx, Path: c.Path, To: c.To}
	}
	return api.Call{Kind: api.CSetx, Path: c.Path, To: c.To, Data: was.Data}
}
