package table_test

import (
	"math/rand"
	"runtime"
	"sync"
	"sync/atomic"
	"testing"

	"fanlight/api"
	"fanlight/epoch"
	"fanlight/place"
	"fanlight/table"
)

// field is what all work on. The board has whose each flow is: from the end of its Put till its place becomes Gone.
type field struct {
	p     *place.Places
	x     *table.Table
	e     *epoch.Epochs
	flows []api.Flow
	board []atomic.Int64
	bad   atomic.Int64
	came  [api.ErrState + 1]atomic.Int64
}

// hand is a worker: its places that are free, and which flows it has by which places.
type hand struct {
	*field
	w    int
	rnd  *rand.Rand
	free []int
	has  map[int]int
}

func (h *hand) wrong(is bool) {
	if is {
		h.bad.Add(1)
	}
}

// bounded does s, by no more Dos than others can make it need.
func (h *hand) bounded(s *table.Step) {
	for range 1 << 22 {
		if h.x.Do(s) {
			h.came[s.End()].Add(1)
			return
		}
	}
	h.bad.Add(1 << 32)
}

func (h *hand) pin() {
	for s := h.e.Pin(h.w); !h.e.Do(s); {
	}
}

func (h *hand) become(i, state int) {
	w := h.p.Load(i)
	now := w
	now.State = state
	if state == place.Made {
		now.Gen = (now.Gen + 1) % 65536
	}
	h.wrong(!h.p.Cas(i, w, now))
}

// look finds a flow: one that is the worker's own is there.
func (h *hand) look(f int) bool {
	s := h.x.Find(h.flows[f])
	h.bounded(s)
	i, w := s.Found()
	own, mine := h.has[f]
	switch s.End() {
	case api.OK:
		h.wrong(mine && i != own || h.p.Key(i) != h.flows[f] || w.State != place.Made && w.State != place.Live)
		return true
	case api.ErrNone:
		h.wrong(mine)
		return false
	}
	h.wrong(true)
	return true
}

func (h *hand) put(f int) {
	if len(h.free) == 0 {
		return
	}
	i := h.free[0]
	h.p.SetKey(i, h.flows[f])
	h.become(i, place.Made)
	s := h.x.Put(h.flows[f], i)
	h.bounded(s)
	if s.End() != api.OK {
		other, _ := s.Found()
		h.wrong(s.End() == api.ErrBusy && (other == i || h.p.Key(other) != h.flows[f]))
		h.become(i, place.Free)
		return
	}
	h.wrong(!h.board[f].CompareAndSwap(0, int64(i+1)))
	h.free, h.has[f] = h.free[1:], i
	h.become(i, place.Live)
}

func (h *hand) end(f int) {
	i := h.has[f]
	delete(h.has, f)
	h.wrong(!h.board[f].CompareAndSwap(int64(i+1), 0))
	h.become(i, place.Gone)
	h.bounded(h.x.Drop(h.flows[f], i))
	h.e.Give(h.w, uint64(i))
}

// reuse makes free what nobody can look at any more.
func (h *hand) reuse() {
	for s := h.e.Advance(); !h.e.Do(s); {
	}
	for _, i := range h.e.Take(h.w) {
		h.become(int(i), place.Free)
		h.free = append(h.free, int(i))
	}
}

func (h *hand) round() {
	f := h.rnd.Intn(len(h.flows))
	h.pin()
	if !h.look(f) {
		h.put(f)
	}
	h.e.Unpin(h.w)
	if _, ok := h.has[f]; ok && h.rnd.Intn(2) == 0 {
		h.end(f)
	}
	h.reuse()
	if len(h.free) == 0 {
		runtime.Gosched()
	}
}

func TestAllAtOneTime(t *testing.T) {
	const workers, each, buckets = 8, 32, 8
	p, x := mustNew(t, workers*each, buckets)
	e, _ := epoch.New(workers)
	rnd := rand.New(rand.NewSource(11))
	g := &field{p: p, x: x, e: e, board: make([]atomic.Int64, 5*buckets)}
	for range g.board {
		g.flows = append(g.flows, someFlow(rnd))
	}
	hands := make([]*hand, workers)
	var all sync.WaitGroup
	for w := range hands {
		h := &hand{field: g, w: w, rnd: rand.New(rand.NewSource(int64(w))), has: map[int]int{}}
		for i := range each {
			h.free = append(h.free, w*each+i)
		}
		hands[w] = h
		all.Add(1)
		go func() {
			defer all.Done()
			for range 60000 {
				if h.bad.Load() == 0 {
					h.round()
				}
			}
		}()
	}
	all.Wait()
	for _, h := range hands {
		for f := range h.flows {
			if _, ok := h.has[f]; ok {
				h.look(f)
				h.end(f)
			}
		}
	}
	for k, l := range x.All() {
		if len(l) > 0 {
			t.Errorf("bucket %d has %v yet", k, l)
		}
	}
	if g.bad.Load() != 0 {
		t.Errorf("%d times it wasn't as it should be (or a Step had no end, by 2^32)", g.bad.Load())
	}
	if g.came[api.OK].Load() < 1000 || g.came[api.ErrNone].Load() < 100 || g.came[api.ErrFull].Load() < 10 {
		t.Error("hardly anything was done:", g.came[api.OK].Load(), g.came[api.ErrNone].Load(), g.came[api.ErrFull].Load())
	}
}
