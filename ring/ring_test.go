package ring_test

import (
	"math"
	"math/rand"
	"slices"
	"testing"

	"fanlight/api"
	"fanlight/ring"
)

func mustNew(t *testing.T, n int) *ring.Ring {
	t.Helper()
	r, e := ring.New(n)
	if e != api.OK || r == nil {
		t.Fatalf("New(%d): %v, error %d", n, r, e)
	}
	return r
}

// finish does s alone: what it came to, and by how many Dos.
func finish(t *testing.T, r *ring.Ring, s *ring.Step) (api.Errno, int) {
	t.Helper()
	for n := 1; n <= 3; n++ {
		if r.Do(s) {
			return s.End(), n
		}
		if s.End() != api.ErrState || s.Value() != 0 {
			t.Fatalf("ahead of its end: %d, %d", s.End(), s.Value())
		}
	}
	t.Fatal("it has no end")
	return 0, 0
}

func wantPut(t *testing.T, r *ring.Ring, v uint64, end api.Errno) {
	t.Helper()
	steps := map[api.Errno]int{api.OK: 3, api.ErrFull: 1}[end]
	s := r.Put(v)
	if e, n := finish(t, r, s); e != end || n != steps || s.Value() != 0 {
		t.Fatalf("Put(%d): %d by %d Dos, value %d; not %d by %d", v, e, n, s.Value(), end, steps)
	}
}

func wantGet(t *testing.T, r *ring.Ring, v uint64, end api.Errno) {
	t.Helper()
	steps := map[api.Errno]int{api.OK: 3, api.ErrNone: 1}[end]
	s := r.Get()
	if e, n := finish(t, r, s); e != end || n != steps || s.Value() != v {
		t.Fatalf("Get: %d by %d Dos, value %d; not %d by %d, value %d", e, n, s.Value(), end, steps, v)
	}
}

func wantAll(t *testing.T, r *ring.Ring, want ...uint64) {
	t.Helper()
	if l := r.All(); !slices.Equal(l, want) || r.Len() != len(want) {
		t.Fatalf("%d wait: %d; not %d", r.Len(), l, want)
	}
}

func wantCells(t *testing.T, r *ring.Ring, want ...uint64) {
	t.Helper()
	if l := r.Copy(); !slices.Equal(l, want) {
		t.Fatalf("cells %d, not %d", l, want)
	}
}

func TestNew(t *testing.T) {
	for _, n := range []int{0, -1, api.RingMost + 1, 1 << 20, math.MinInt, math.MaxInt} {
		if r, e := ring.New(n); r != nil || e != api.ErrArg {
			t.Errorf("New(%d): %v, error %d", n, r, e)
		}
	}
	for n := 1; n <= api.RingMost; n++ {
		r := mustNew(t, n)
		wantAll(t, r)
		wantCells(t, r, make([]uint64, 2+n)...)
		wantGet(t, r, 0, api.ErrNone)
		var l []uint64
		for k := range uint64(n) {
			wantPut(t, r, k+7, api.OK)
			l = append(l, k+7)
		}
		wantPut(t, r, 1, api.ErrFull)
		wantAll(t, r, l...)
	}
}

// TestExample is the chapter's.
func TestExample(t *testing.T) {
	r := mustNew(t, 1)
	wantPut(t, r, 5, api.OK)
	wantPut(t, r, 6, api.ErrFull)
	wantGet(t, r, 5, api.OK)
	wantGet(t, r, 0, api.ErrNone)
}

// TestCells: the k-th number stands in the (k modulo n)-th cell behind the counts, from 0 on; what was got stays there till another one comes.
func TestCells(t *testing.T) {
	r := mustNew(t, 3)
	wantPut(t, r, math.MaxUint64, api.OK)
	wantPut(t, r, 0, api.OK)
	wantCells(t, r, 0, 2, math.MaxUint64, 0, 0)
	wantGet(t, r, math.MaxUint64, api.OK)
	wantPut(t, r, 8, api.OK)
	wantPut(t, r, 9, api.OK)
	wantCells(t, r, 1, 4, 9, 0, 8)
	wantAll(t, r, 0, 8, 9)
	wantPut(t, r, 10, api.ErrFull)
	wantGet(t, r, 0, api.OK)
	wantGet(t, r, 8, api.OK)
	wantGet(t, r, 9, api.OK)
	wantGet(t, r, 0, api.ErrNone)
	wantCells(t, r, 4, 4, 9, 0, 8)
}

// TestSteps tells Do by Do what is there.
func TestSteps(t *testing.T) {
	r := mustNew(t, 2)
	do := func(s *ring.Step, done bool, end api.Errno, value uint64, cells ...uint64) {
		t.Helper()
		if d := r.Do(s); d != done || s.End() != end || s.Value() != value {
			t.Fatalf("Do: %v, %d, value %d", d, s.End(), s.Value())
		}
		wantCells(t, r, cells...)
	}
	put := r.Put(4)
	if put.End() != api.ErrState {
		t.Error(put.End())
	}
	wantCells(t, r, 0, 0, 0, 0)
	do(put, false, api.ErrState, 0, 0, 0, 0, 0)
	do(put, false, api.ErrState, 0, 0, 0, 4, 0)
	wantAll(t, r)
	wantGet(t, r, 0, api.ErrNone)
	do(put, true, api.OK, 0, 0, 1, 4, 0)
	wantAll(t, r, 4)
	get := r.Get()
	do(get, false, api.ErrState, 0, 0, 1, 4, 0)
	do(get, false, api.ErrState, 0, 0, 1, 4, 0)
	wantAll(t, r, 4)
	do(get, true, api.OK, 4, 1, 1, 4, 0)
	wantAll(t, r)
	for range 3 {
		do(put, true, api.OK, 0, 1, 1, 4, 0)
		do(get, true, api.OK, 4, 1, 1, 4, 0)
	}
}

// TestRoomWhileOneIsGot: a number waits till its Get is done; and a Put asks whether there is room when it begins its steps.
func TestRoomWhileOneIsGot(t *testing.T) {
	r := mustNew(t, 1)
	wantPut(t, r, 5, api.OK)
	get := r.Get()
	r.Do(get)
	r.Do(get)
	wantPut(t, r, 6, api.ErrFull)
	put := r.Put(7)
	if !r.Do(get) || get.Value() != 5 {
		t.Fatal(get.End(), get.Value())
	}
	if e, n := finish(t, r, put); e != api.OK || n != 3 {
		t.Fatal(e, n)
	}
	wantAll(t, r, 7)
}

// TestOneAtATime: of each kind there is one at most that isn't done.
func TestOneAtATime(t *testing.T) {
	r := mustNew(t, 2)
	for range 5 {
		put, get := r.Put(1), r.Get()
		if put == nil || get == nil {
			t.Fatal("the kinds don't hinder each other")
		}
		for !r.Do(put) {
			if r.Put(2) != nil {
				t.Fatal("another Put goes on")
			}
		}
		for !r.Do(get) {
			if r.Get() != nil {
				t.Fatal("another Get goes on")
			}
		}
		if put.End() != api.OK || get.End() != api.OK || get.Value() != 1 {
			t.Fatal(put.End(), get.End(), get.Value())
		}
	}
	wantAll(t, r)
	wantGet(t, r, 0, api.ErrNone)
	if r.Get() == nil {
		t.Error("one that is ErrNone is done")
	}
}

func TestNothing(t *testing.T) {
	var r *ring.Ring
	var s *ring.Step
	if r.Put(1) != nil || r.Get() != nil || !r.Do(nil) || r.Len() != 0 || len(r.All()) != 0 || len(r.Copy()) != 0 {
		t.Error("a nil Ring")
	}
	if s.End() != api.ErrState || s.Value() != 0 {
		t.Error(s.End(), s.Value())
	}
	q := mustNew(t, 2)
	put := q.Put(3)
	if !r.Do(put) || put.End() != api.ErrState {
		t.Error("a nil Ring did something")
	}
	wantCells(t, q, 0, 0, 0, 0)
	if !q.Do(nil) || !q.Do(&ring.Step{}) || (&ring.Step{}).End() != api.ErrState {
		t.Error("a Step that nobody began")
	}
	zero := &ring.Ring{}
	if e, _ := finish(t, zero, zero.Put(1)); e != api.ErrFull {
		t.Error(e)
	}
	if e, _ := finish(t, zero, zero.Get()); e != api.ErrNone {
		t.Error(e)
	}
	wantAll(t, zero)
}

// TestAnotherRingDoes: a Step works on the ring at which it began.
func TestAnotherRingDoes(t *testing.T) {
	a, b := mustNew(t, 2), mustNew(t, 3)
	finish(t, b, a.Put(7))
	wantAll(t, a, 7)
	wantCells(t, b, 0, 0, 0, 0, 0)
	s := a.Get()
	if e, _ := finish(t, b, s); e != api.OK || s.Value() != 7 {
		t.Error(e, s.Value())
	}
}

// TestAnswersAreNewMemory is P20.3.
func TestAnswersAreNewMemory(t *testing.T) {
	r := mustNew(t, 2)
	wantPut(t, r, 5, api.OK)
	wantPut(t, r, 6, api.OK)
	clear(r.All())
	clear(r.Copy())
	_ = append(r.All()[:1], 9)
	wantAll(t, r, 5, 6)
	wantCells(t, r, 0, 2, 5, 6)
	wantGet(t, r, 5, api.OK)
}

// TestAgainstPlainNumbers does whatever may be done, also to steps that are done, or are none, and holds all that is told against plain numbers: P20.1.
func TestAgainstPlainNumbers(t *testing.T) {
	rnd := rand.New(rand.NewSource(20))
	for range 600 {
		n := 1 + rnd.Intn(6)
		r, p := mustNew(t, n), newPlain(n)
		steps, wants := []*ring.Step{nil}, []*plainStep{nil}
		bias := 2 + rnd.Intn(3)
		for range 300 {
			if rnd.Intn(3) == 0 {
				gets, v := rnd.Intn(bias) == 0, rnd.Uint64()
				s, want := r.Put, p.begin(gets, v)
				if gets {
					s = func(uint64) *ring.Step { return r.Get() }
				}
				steps, wants = append(steps, s(v)), append(wants, want)
			}
			k := len(steps) - 1 - rnd.Intn(min(len(steps), 4))
			if (steps[k] == nil) != (wants[k] == nil) {
				t.Fatalf("step %d: %v, not %v", k, steps[k], wants[k])
			}
			if d, want := r.Do(steps[k]), p.do(wants[k]); d != want {
				t.Fatalf("Do: %v, not %v", d, want)
			}
			if steps[k].End() != wants[k].ended() || steps[k].Value() != wants[k].told() {
				t.Fatalf("%d, %d; not %+v", steps[k].End(), steps[k].Value(), wants[k])
			}
			wantCells(t, r, p.cells()...)
			wantAll(t, r, p.all()...)
		}
	}
}
