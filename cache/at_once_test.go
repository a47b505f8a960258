package cache_test

import (
	"math/rand"
	"slices"
	"sync"
	"sync/atomic"
	"testing"

	"fanlight/cache"
)

// hands has of each number who popped it and hasn't put it back.
type hands struct {
	holder []atomic.Int64
	bad    atomic.Int64
	popped atomic.Int64
}

// bounded does s, by no more Dos than others can make it need.
func (h *hands) bounded(c *cache.Cache, s *cache.Step) {
	for range 1 << 22 {
		if c.Do(s) {
			return
		}
	}
	h.bad.Add(1 << 32)
}

func (h *hands) move(n int, from, to int64) {
	if !h.holder[n].CompareAndSwap(from, to) {
		h.bad.Add(1)
	}
}

func (h *hands) round(w int64, c *cache.Cache, rnd *rand.Rand) {
	var mine []int
	for range 1 + rnd.Intn(20) {
		h.bounded(c, c.Fill())
		if n, ok := c.Pop(); ok {
			h.move(n, 0, w)
			h.popped.Add(1)
			mine = append(mine, n)
		}
	}
	for _, n := range mine {
		h.move(n, w, 0)
		h.bounded(c, c.Put(n))
	}
	if rnd.Intn(8) == 0 {
		h.bounded(c, c.Flush())
	}
}

func TestAllAtOneTime(t *testing.T) {
	const workers, size = 8, 70
	p := mustPool(t, size)
	h := &hands{holder: make([]atomic.Int64, size)}
	caches := make([]*cache.Cache, workers)
	var all sync.WaitGroup
	for w := range workers {
		caches[w] = mustNew(t, p, w)
		all.Add(1)
		go func() {
			defer all.Done()
			rnd := rand.New(rand.NewSource(int64(w)))
			for range 500 {
				h.round(int64(w+1), caches[w], rnd)
			}
		}()
	}
	all.Wait()
	if h.bad.Load() != 0 || h.popped.Load() < size {
		t.Errorf("%d numbers were two's (or Steps without an end, by 2^32); %d were popped", h.bad.Load(), h.popped.Load())
	}
	at := p.Free()
	for _, c := range caches {
		at = slices.Concat(at, c.All(), c.Leaving())
	}
	slices.Sort(at)
	wantInts(t, "none was lost", at, from(0, size-1)...)
}
