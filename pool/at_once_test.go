package pool_test

import (
	"math/rand"
	"sync"
	"sync/atomic"
	"testing"

	"fanlight/pool"
)

// board has who holds each number, from the end of its Take till the call of its Back.
type board struct {
	p      *pool.Pool
	holder []atomic.Int64
	bad    atomic.Int64
	took   atomic.Int64
}

// bounded does s, by no more Dos than others can make it need.
func (b *board) bounded(s *pool.Step) {
	for range 1 << 22 {
		if b.p.Do(s) {
			return
		}
	}
	b.bad.Add(1 << 32)
}

func (b *board) round(w int64, rnd *rand.Rand) {
	s := b.p.Take(rnd.Int(), 1+rnd.Intn(12))
	b.bounded(s)
	got := s.Got()
	b.took.Add(int64(len(got)))
	for _, n := range got {
		if !b.holder[n].CompareAndSwap(0, w) {
			b.bad.Add(1)
		}
	}
	for _, n := range got {
		if !b.holder[n].CompareAndSwap(w, 0) {
			b.bad.Add(1)
		}
	}
	b.bounded(b.p.Back(got))
}

func TestAllAtOneTime(t *testing.T) {
	const workers, size = 8, 70
	b := &board{p: mustNew(t, size), holder: make([]atomic.Int64, size)}
	var all sync.WaitGroup
	for w := range workers {
		all.Add(1)
		go func() {
			defer all.Done()
			rnd := rand.New(rand.NewSource(int64(w)))
			for range 3000 {
				b.round(int64(w+1), rnd)
			}
		}()
	}
	all.Wait()
	if b.bad.Load() != 0 || b.took.Load() < size {
		t.Errorf("%d numbers were two's (or Steps without an end, by 2^32); %d were taken", b.bad.Load(), b.took.Load())
	}
	wantInts(t, "all came back", b.p.Free(), from(0, size-1)...)
}
