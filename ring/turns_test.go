package ring_test

import (
	"runtime"
	"slices"
	"sync"
	"testing"

	"fanlight/api"
	"fanlight/explore"
	"fanlight/ring"
)

// side is one of the two who work on a ring: it begins so many Steps, one behind the other.
type side struct {
	begin func() *ring.Step
	left  int
	step  *ring.Step
	ends  []api.Errno
	got   []uint64
}

// scene is both of them. Whatever is promised is held against each moment.
type scene struct {
	t     *testing.T
	r     *ring.Ring
	n     int
	sides [2]side
	path  []int
}

// newScene has one put 1, 2 and so on, and one get.
func newScene(t *testing.T, n, puts, gets int) *scene {
	r := mustNew(t, n)
	next := uint64(0)
	s := &scene{t: t, r: r, n: n}
	s.sides[0] = side{left: puts, begin: func() *ring.Step {
		next++
		return r.Put(next)
	}}
	s.sides[1] = side{left: gets, begin: r.Get}
	return s
}

func (s *scene) able() []int {
	var l []int
	for k := range s.sides {
		if s.sides[k].left > 0 {
			l = append(l, k)
		}
	}
	return l
}

// turn lets one do one step.
func (s *scene) turn(k int) {
	s.path = append(s.path, k)
	x := &s.sides[k]
	if x.step == nil {
		x.step = x.begin()
	}
	was := s.r.Copy()
	done := s.r.Do(x.step)
	changed := 0
	for i, v := range s.r.Copy() {
		if v != was[i] {
			changed++
		}
	}
	if changed > 1 || s.r.Len() > s.n || len(s.r.All()) != s.r.Len() {
		s.t.Fatalf("%d cells changed, %d wait, by turns %v", changed, s.r.Len(), s.path)
	}
	// What each end needs must have been at this very step, which read it.
	if done && x.step.End() == api.ErrFull && s.r.Len() < s.n || done && x.step.End() == api.ErrNone && s.r.Len() > 0 {
		s.t.Fatalf("it came to %d, and %d wait, by turns %v", x.step.End(), s.r.Len(), s.path)
	}
	if !done {
		return
	}
	x.ends = append(x.ends, x.step.End())
	if k == 1 && x.step.End() == api.OK {
		x.got = append(x.got, x.step.Value())
	}
	x.left--
	x.step = nil
}

// finish holds what was got against what was put: P20.2.
func (s *scene) finish() {
	var put []uint64
	for k, e := range s.sides[0].ends {
		if e == api.OK {
			put = append(put, uint64(k+1))
		}
	}
	if l := append(s.sides[1].got, s.r.All()...); !slices.Equal(l, put) {
		s.t.Fatalf("got, and waiting: %d; put: %d; by turns %v", l, put, s.path)
	}
}

func TestByAllTurns(t *testing.T) {
	for _, x := range []struct{ n, puts, gets int }{{1, 1, 1}, {1, 2, 2}, {1, 3, 2}, {2, 3, 2}, {2, 2, 3}, {1, 3, 3}, {2, 3, 3}} {
		ends := map[api.Errno]int{}
		runs := explore.Each(func(pick func(int) int) {
			s := newScene(t, x.n, x.puts, x.gets)
			for l := s.able(); len(l) > 0; l = s.able() {
				s.turn(l[pick(len(l))])
			}
			s.finish()
			for k := range s.sides {
				for _, e := range s.sides[k].ends {
					ends[e]++
				}
			}
		})
		t.Logf("%+v: %d turns, %v", x, runs, ends)
		if ends[api.OK] == 0 || ends[api.ErrNone] == 0 || x.puts > x.n && ends[api.ErrFull] == 0 {
			t.Errorf("%+v: by %d turns %v", x, runs, ends)
		}
	}
}

// TestAtOneTime has one put and one get, each in a goroutine: what is got is what was put, in that order.
func TestAtOneTime(t *testing.T) {
	const total = 40000
	for _, n := range []int{1, 2, 7, api.RingMost} {
		r := mustNew(t, n)
		var all sync.WaitGroup
		all.Add(1)
		go func() {
			defer all.Done()
			for v := uint64(1); v <= total; {
				s := r.Put(v)
				for !r.Do(s) {
				}
				if s.End() == api.OK {
					v++
				} else {
					runtime.Gosched()
				}
			}
		}()
		for want := uint64(1); want <= total; {
			s := r.Get()
			for !r.Do(s) {
			}
			switch {
			case s.End() == api.OK && s.Value() == want:
				want++
			case s.End() == api.ErrNone:
				runtime.Gosched()
			default:
				t.Fatalf("%d: got %d (%d), not %d", n, s.Value(), s.End(), want)
			}
		}
		all.Wait()
		wantAll(t, r)
		if c := r.Copy(); c[0] != total || c[1] != total {
			t.Errorf("%d: %d", n, c)
		}
	}
}
