package nat

import (
	"fanlight/api"
	"fanlight/cache"
	"fanlight/model"
	"fanlight/place"
	"fanlight/plan"
	"fanlight/wheel"
)

// worker is what one does, and what is its own. It does one thing at a time: a frame, or a sweep.
type worker struct {
	nat     *Nat
	number  int
	caches  []*cache.Cache // of each protocol, at its Kind
	wheel   *wheel.Wheel   // places of its bindings, each at the first tick at which a sweep may end it
	retired []gone         // the oldest first

	next  step // nil: it does nothing
	job   job
	round round
	told  model.Answer // of its last frame that is done
	has   bool         // there is one
	ended []End
}

// step is what a worker does at once. In it at most one cell is read, or changed; and it tells which step comes next.
type step func(*worker)

// gone is a place whose binding the worker brought to its end, and its Word then.
type gone struct {
	place int
	word  place.Word
}

// newWorker is worker k, whose caches look for ports at different words first: so workers don't meet there at once.
func newWorker(n *Nat, k int) (*worker, api.Errno) {
	w := &worker{nat: n, number: k, wheel: wheel.New()}
	for _, p := range n.pools {
		c, e := cache.New(p, k)
		if e != api.OK {
			return nil, e
		}
		w.caches = append(w.caches, c)
	}
	return w, api.OK
}

func (w *worker) busy() bool { return w.next != nil }

// cacheOf is the cache that the port of a place belongs into, and which number it has there.
func (w *worker) cacheOf(i int) (*cache.Cache, int) {
	ports := plan.Ports(w.nat.config)
	return w.caches[i/ports], i % ports
}

// free lets a place that the worker owns be Free, and puts its port into the cache, in one step. What its cache has to do then is a Step of the cache.
func (w *worker) free(i int, word place.Word) *cache.Step {
	now := word
	now.State = place.Free
	w.nat.places.Cas(i, word, now)
	c, number := w.cacheOf(i)
	return c.Put(number)
}
