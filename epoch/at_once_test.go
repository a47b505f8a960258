package epoch_test

import (
	"runtime"
	"sync"
	"sync/atomic"
	"testing"

	"fanlight/epoch"
)

// shelf is a thing that all look at, of which there are several: a worker who lays another one out gives the old one up, and wipes it when it may be used again.
type shelf struct {
	e     *epoch.Epochs
	out   atomic.Uint64
	wiped [4096]atomic.Bool
	next  atomic.Uint64
	bad   atomic.Uint64
	used  atomic.Uint64
}

// bounded does s, by no more Dos than others can make it need.
func (s *shelf) bounded(step *epoch.Step) bool {
	for range 1 << 20 {
		if s.e.Do(step) {
			return true
		}
	}
	s.bad.Add(1 << 32)
	return false
}

// look is done pinned: what was out then isn't wiped till the end.
func (s *shelf) look(w int) {
	if !s.bounded(s.e.Pin(w)) {
		return
	}
	seen := s.out.Load()
	for range 5 {
		runtime.Gosched() // others go on meanwhile
		if s.wiped[seen].Load() {
			s.bad.Add(1)
		}
	}
	s.e.Unpin(w)
}

func (s *shelf) lay(w int) {
	n := s.next.Add(1)
	if n >= uint64(len(s.wiped)) {
		return
	}
	s.e.Give(w, s.out.Swap(n))
}

func (s *shelf) wipe(w int) {
	s.bounded(s.e.Advance())
	for _, what := range s.e.Take(w) {
		s.wiped[what].Store(true)
		s.used.Add(1)
	}
}

func TestAllAtOneTime(t *testing.T) {
	const workers = 4
	s := &shelf{e: mustNew(t, workers)}
	var all sync.WaitGroup
	for w := range workers {
		all.Add(1)
		go func() {
			defer all.Done()
			for range 2000 {
				s.look(w)
				s.lay(w)
				s.look(w)
				s.wipe(w)
			}
		}()
	}
	all.Wait()
	if s.bad.Load() != 0 {
		t.Errorf("%d looks at what was used again (or Steps without an end, by 2^32)", s.bad.Load())
	}
	for range 2 {
		advance(t, s.e)
	}
	for w := range workers {
		s.wipe(w)
		if s.e.Waiting(w) != 0 {
			t.Errorf("worker %d: %d things are left", w, s.e.Waiting(w))
		}
	}
	if s.used.Load() != uint64(len(s.wiped))-1 {
		t.Errorf("%d were used again", s.used.Load())
	}
}
