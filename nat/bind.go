package nat

import (
	"fanlight/api"
	"fanlight/cache"
	"fanlight/place"
	"fanlight/plan"
	"fanlight/track"
)

// bind begins to make a binding of the flow, which nobody has, by a port of the worker's own.
func (w *worker) bind() {
	c := w.nat.config
	if number, ok := w.ports().Top(); ok {
		w.job.place = plan.Place(c, w.job.flow.Proto, c.Lo+number)
		w.next = (*worker).readOwn
		return
	}
	w.job.fill = w.ports().Fill()
	w.next = (*worker).doFill
}

// ports is the cache of the flow's protocol.
func (w *worker) ports() *cache.Cache { return w.caches[plan.Kind(w.job.flow.Proto)] }

// doFill is one step of getting ports. When there are none the flow is looked for once more, and then whether there are none yet: so there was a moment at which it had no binding, and could get none.
func (w *worker) doFill() {
	if !w.ports().Do(w.job.fill) {
		return
	}
	if w.job.fill.None() {
		w.search((*worker).doFindAgain)
	} else {
		w.bind()
	}
}

func (w *worker) doFindAgain() {
	if w.missed() {
		w.job.again = w.ports().Again(w.job.fill)
		w.next = (*worker).doAgain
	}
}

func (w *worker) doAgain() {
	if !w.ports().Do(w.job.again) {
		return
	}
	if w.job.again.Same() {
		w.refuse(api.ErrNoPort)
	} else {
		w.bind()
	}
}

// readOwn reads the Word of a place that is Free and the worker's, which nobody else changes.
func (w *worker) readOwn() {
	w.job.word = w.nat.places.Load(w.job.place)
	w.next = (*worker).layKey
}

func (w *worker) layKey() {
	w.nat.places.SetKey(w.job.place, w.job.flow)
	w.next = (*worker).makeIt
}

// makeIt lets the place be Made. In this step it is the cache's no more.
func (w *worker) makeIt() {
	j := &w.job
	now := place.Word{
		State: place.Made,
		Gen:   int(uint16(j.word.Gen + 1)),
		Track: track.Next(j.flow.Proto, track.Opening, j.out, j.flags),
		Seen:  j.tick,
	}
	if !w.nat.places.Cas(j.place, j.word, now) {
		w.next = (*worker).readOwn
		return
	}
	w.ports().Pop()
	j.word, j.made = now, true
	j.put = w.nat.table.Put(j.flow, j.place)
	w.next = (*worker).doPut
}

func (w *worker) doPut() {
	if !w.nat.table.Do(w.job.put) {
		return
	}
	if w.job.put.End() == api.OK {
		w.next = (*worker).live
	} else {
		w.next = (*worker).unmake
	}
}

// live lets the binding be there, if nobody who found it did so. Its life is the worker's care from then on.
func (w *worker) live() {
	w.makeLive()
	w.await(w.job.place, w.job.word)
	w.goOn()
}

// makeLive lets a place be Live that was Made when it was read: did it?
func (w *worker) makeLive() bool {
	now := w.job.word
	now.State = place.Live
	return w.nat.places.Cas(w.job.place, w.job.word, now)
}

// unmake gives up a place that isn't in the table: nobody saw it there.
func (w *worker) unmake() {
	w.job.made = false
	w.job.back = w.free(w.job.place, w.job.word)
	w.next = (*worker).keep
}

// keep is one step of what the cache has to do when it got its port back. Then who has the flow is met, if one has.
func (w *worker) keep() {
	if !w.ports().Do(w.job.back) {
		return
	}
	if e := w.job.put.End(); e == api.ErrBusy {
		w.meet(w.job.put.Found())
	} else {
		w.refuse(e)
	}
}
