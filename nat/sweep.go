package nat

import (
	"slices"

	"fanlight/api"
	"fanlight/cache"
	"fanlight/epoch"
	"fanlight/place"
	"fanlight/plan"
	"fanlight/table"
	"fanlight/track"
	"fanlight/wheel"
)

// round is a sweep that is being done.
type round struct {
	tick    int
	due     []wheel.Item // which of the worker's bindings aren't looked at yet
	place   int          // of the one that is
	word    place.Word
	drop    *table.Step
	advance *epoch.Step
	ripe    int // how many of the worker's retired places may be Free
	back    *cache.Step
}

// sweep begins to end what is over at a tick.
func (w *worker) sweep(tick int) {
	w.ended = nil
	w.round = round{tick: tick, due: w.wheel.Due(tick)}
	w.nextDue()
}

// await lets a binding be looked at by the first sweep that may end it. It is seen at that Word's tick or later; and how its connection stands may change at any tick: so it is the shortest life that it may have.
func (w *worker) await(i int, word place.Word) {
	proto, _ := plan.Port(w.nat.config, i)
	w.wheel.Add(i, min(word.Seen+track.Life(proto, track.Closed), api.MaxTick))
}

func (w *worker) nextDue() {
	r := &w.round
	if len(r.due) == 0 {
		r.advance = w.nat.epochs.Advance()
		w.next = (*worker).doAdvance
		return
	}
	r.place, r.due = r.due[0].Id, r.due[1:]
	w.next = (*worker).judge
}

// judge reads whether a binding's life is over.
func (w *worker) judge() {
	r := &w.round
	r.word = w.nat.places.Load(r.place)
	proto, _ := plan.Port(w.nat.config, r.place)
	if r.word.Seen+track.Life(proto, r.word.Track) > r.tick {
		w.await(r.place, r.word)
		w.nextDue()
		return
	}
	w.next = (*worker).end
}

// end lets a binding come to its end, if it is as it was: one that was seen between is looked at anew.
func (w *worker) end() {
	r := &w.round
	now := r.word
	now.State = place.Gone
	if !w.nat.places.Cas(r.place, r.word, now) {
		w.next = (*worker).judge
		return
	}
	proto, port := plan.Port(w.nat.config, r.place)
	w.ended = append(w.ended, End{Proto: proto, Port: port})
	w.retired = append(w.retired, gone{place: r.place, word: now})
	w.next = (*worker).readFlow
}

func (w *worker) readFlow() {
	r := &w.round
	r.drop = w.nat.table.Drop(w.nat.places.Key(r.place), r.place)
	w.next = (*worker).doDrop
}

func (w *worker) doDrop() {
	if w.nat.table.Do(w.round.drop) {
		w.next = (*worker).give
	}
}

// give gives the place up, when nobody can find it any more: who found it ahead of that is pinned.
func (w *worker) give() {
	w.nat.epochs.Give(w.number, uint64(w.round.place))
	w.nextDue()
}

func (w *worker) doAdvance() {
	if w.nat.epochs.Do(w.round.advance) {
		w.next = (*worker).take
	}
}

// take notes how many places nobody can look at any more. They are the oldest ones: they were given up in that order.
func (w *worker) take() {
	w.round.ripe = len(w.nat.epochs.Take(w.number))
	w.nextRipe()
}

func (w *worker) nextRipe() {
	if w.round.ripe == 0 {
		w.round = round{}
		w.next = nil
		return
	}
	w.round.ripe--
	w.next = (*worker).reuse
}

// reuse lets a place be Free, and its port be in the cache.
func (w *worker) reuse() {
	r := &w.round
	old := w.retired[0]
	w.retired = slices.Delete(w.retired, 0, 1)
	r.place, r.back = old.place, w.free(old.place, old.word)
	w.next = (*worker).doBack
}

// doBack is one step of what the cache has to do when it got a port.
func (w *worker) doBack() {
	c, _ := w.cacheOf(w.round.place)
	if c.Do(w.round.back) {
		w.nextRipe()
	}
}
