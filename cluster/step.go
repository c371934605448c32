package cluster

import (
	"crannog/api"
	"crannog/fs"
	"crannog/syncd"
	"crannog/vector"
)

// Step does a step of a script: its answer.
func (w *World) Step(s api.Step) api.Answer {
	if !w.made() {
		return api.Answer{Err: api.ENIL}
	}
	switch s.Kind {
	case api.SDeliver:
		return api.Answer{Err: w.deliver(s.N)}
	case api.SDrop:
		return api.Answer{Err: w.net.Lose(s.N)}
	case api.SDouble:
		return api.Answer{Err: w.net.Double(s.N)}
	}
	r := w.replica(s.Rep)
	if r == nil {
		return api.Answer{Err: api.EINVAL}
	}
	switch s.Kind {
	case api.SCrash:
		r.dark()
		return api.Answer{Err: r.dev.Crash(s.Keep...)}
	case api.SStart:
		return api.Answer{Err: w.start(s.Rep)}
	}
	if !r.lit() {
		return api.Answer{Err: api.EIO}
	}
	if s.Kind == api.SCall {
		return w.call(r, s)
	}
	return api.Answer{Err: w.work(r, s)}
}

// work is a step of a replica that has power, but a call.
func (w *World) work(r *replica, s api.Step) api.Errno {
	switch s.Kind {
	case api.SSnap:
		return r.tell(r.fs.Snap(s.Vol, s.To))
	case api.SClone:
		return r.tell(r.fs.Clone(s.Vol, s.To))
	case api.SDelete:
		return r.tell(r.fs.Delete(s.Vol))
	case api.SCommit:
		return r.tell(r.fs.Commit())
	case api.STick:
		w.send(r.sync.Tick())
		return api.OK
	case api.SFuse:
		return r.dev.Fuse(s.N)
	case api.SPrune:
		vol, ok := w.main(s.Vol)
		if !ok {
			return api.ENOENT
		}
		return r.tell(r.sync.Prune(vol))
	}
	return api.EINVAL
}

// call is a call on a volume of a replica: an event, if it wrote something there that all have.
func (w *World) call(r *replica, s api.Step) api.Answer {
	knew := r.seen(s.Vol)
	ans, out := r.fs.Call(s.Vol, s.Call)
	r.tell(ans.Err)
	if vol, ok := w.main(s.Vol); ok && out.Seen != (api.Vector{}) { // whatever is written has its event
		at, _ := vector.Next(knew, s.Rep)
		w.events = append(w.events, api.Event{At: at, Vol: vol, Knew: knew, Delta: out})
	}
	return ans
}

// send puts messages on their way, as long as there is room.
func (w *World) send(l []api.Msg) {
	for _, m := range l {
		w.net.Send(m)
	}
}

// deliver has a message come to whom it is for, and what is said to it be sent.
func (w *World) deliver(k int) api.Errno {
	m, err := w.net.Take(k)
	if err != api.OK {
		return err
	}
	r := w.reps[m.To]
	if !r.lit() {
		return api.EIO
	}
	said, err := r.sync.Take(m)
	w.send(said)
	return r.tell(err)
}

// start gives a replica power.
func (w *World) start(i int) api.Errno {
	r := w.reps[i]
	if r.lit() {
		return api.EBUSY
	}
	if err := r.dev.Start(); err != api.OK {
		return err
	}
	f, err := fs.Open(r.dev)
	if err != api.OK {
		return err
	}
	s, err := syncd.New(f, len(w.reps))
	if err != api.OK {
		return err
	}
	r.fs, r.sync = f, s
	w.forget(i)
	return api.OK
}
