package nat

import (
	"bytes"

	"fanlight/api"
	"fanlight/cache"
	"fanlight/epoch"
	"fanlight/head"
	"fanlight/model"
	"fanlight/part"
	"fanlight/place"
	"fanlight/plan"
	"fanlight/rewrite"
	"fanlight/table"
	"fanlight/track"
)

// job is a frame that is being done.
type job struct {
	out     bool
	frame   []byte
	tick    int
	flow    api.Flow // who sends it, if it goes out; else to whom of the outer address it comes
	flags   int
	isError bool
	begins  bool // it may begin a binding

	pin    *epoch.Step
	pinned bool
	find   *table.Step
	place  int        // at which its binding stands, or is to stand
	word   place.Word // what that had when it was last read

	fill  *cache.Step
	again *cache.Step
	made  bool // the place was made for this frame
	put   *table.Step
	back  *cache.Step

	answer model.Answer
}

// begin begins a frame. What is refused by its bytes alone isn't pinned: it looks at no cell.
func (w *worker) begin(out bool, frame []byte, tick int) {
	j, e := w.nat.job(out, frame, tick)
	w.job = j
	if e != api.OK {
		w.job.answer.Err = e
		w.next = (*worker).tell
		return
	}
	w.job.pin = w.nat.epochs.Pin(w.number)
	w.next = (*worker).doPin
}

// job is a frame, as it is known ahead of any cell.
func (n *Nat) job(out bool, frame []byte, tick int) (job, api.Errno) {
	if !isTick(tick) {
		return job{}, api.ErrArg
	}
	flow, e := model.Whose(n.config, out, frame)
	if e != api.OK {
		return job{}, e
	}
	i := plan.Place(n.config, flow.Proto, int(flow.Port))
	if !out && i < 0 {
		return job{}, api.ErrNone
	}
	h, _ := head.Get(frame)
	p, _ := part.Get(h, frame)
	return job{
		out:     out,
		frame:   bytes.Clone(frame[:h.Len]),
		tick:    tick,
		flow:    flow,
		flags:   p.Flags,
		isError: p.Error,
		begins:  model.Begins(out, frame),
		place:   i,
	}, api.OK
}

func (w *worker) doPin() {
	if !w.nat.epochs.Do(w.job.pin) {
		return
	}
	w.job.pinned = true
	if w.job.out {
		w.search((*worker).doFind)
	} else {
		w.next = (*worker).look
	}
}

// search begins to look in the table for who has the flow.
func (w *worker) search(find step) {
	w.job.find = w.nat.table.Find(w.job.flow)
	w.next = find
}

func (w *worker) doFind() {
	if !w.missed() {
		return
	}
	if w.job.begins {
		w.bind()
	} else {
		w.refuse(api.ErrNone)
	}
}

// missed does one step of looking for the flow: is that done, and nobody has it? Who has it is met.
func (w *worker) missed() bool {
	find := w.job.find
	if !w.nat.table.Do(find) {
		return false
	}
	if find.End() == api.OK {
		w.meet(find.Found())
		return false
	}
	return true
}

// look reads how the place stands at which the frame's binding should be.
func (w *worker) look() { w.meet(w.job.place, w.nat.places.Load(w.job.place)) }

// meet goes on with a place that was just read. One that goes out knows the place by the table: so it is its flow's if it is Made, and was if it is Gone. One that comes in knows it by its port: what isn't Live isn't there for it.
func (w *worker) meet(i int, word place.Word) {
	w.job.place, w.job.word = i, word
	out := w.job.out
	switch {
	case word.State == place.Live && out:
		w.see()
	case word.State == place.Live:
		w.next = (*worker).readKey
	case word.State == place.Made && out:
		w.next = (*worker).enliven
	case out:
		w.search((*worker).doFind)
	default:
		w.refuse(api.ErrNone)
	}
}

// enliven does for another worker what that one was about to do: so nobody has to wait for it.
func (w *worker) enliven() {
	if w.makeLive() {
		w.job.word.State = place.Live
		w.see()
	} else {
		w.next = (*worker).look
	}
}

// readKey reads to whom inside a frame goes. It is the Live binding's that was read ahead of it: no place gets another Key while one is pinned who saw it Live.
func (w *worker) readKey() {
	w.job.flow = w.nat.places.Key(w.job.place)
	w.see()
}

// see lets the binding know of the frame. One that isn't changed by it needs no step for that: it was as it is when it was read.
func (w *worker) see() {
	if w.job.seen() == w.job.word {
		w.goOn()
	} else {
		w.next = (*worker).renew
	}
}

func (w *worker) renew() {
	if w.nat.places.Cas(w.job.place, w.job.word, w.job.seen()) {
		w.goOn()
	} else {
		w.next = (*worker).look
	}
}

// seen is the binding's Word behind the frame. An error isn't its flow's doing: it changes nothing.
func (j *job) seen() place.Word {
	now := j.word
	if j.isError {
		return now
	}
	now.Track = track.Next(j.flow.Proto, now.Track, j.out, j.flags)
	if track.Renews(j.flow.Proto, j.out) {
		now.Seen = max(now.Seen, j.tick)
	}
	return now
}

// goOn lets the frame go on by its binding.
func (w *worker) goOn() {
	j := &w.job
	if j.out {
		j.answer.Frame, j.answer.Err = rewrite.Out(j.frame, w.nat.config.Outer, uint16(w.nat.port(j.place)))
	} else {
		j.answer.Frame, j.answer.Err = rewrite.In(j.frame, j.flow.Addr, j.flow.Port)
	}
	w.next = (*worker).unpin
}

func (w *worker) refuse(e api.Errno) {
	w.job.answer.Err = e
	w.next = (*worker).unpin
}

func (w *worker) unpin() {
	w.nat.epochs.Unpin(w.number)
	w.tell()
}

// tell ends a frame.
func (w *worker) tell() {
	w.told, w.has = w.job.answer, true
	w.job = job{}
	w.next = nil
}
