package cache_test

import (
	"math"
	"math/rand"
	"slices"
	"testing"

	"fanlight/cache"
	"fanlight/explore"
	"fanlight/pool"
)

// twin is what a Cache should do, on a pool that goes on like the Cache's.
type twin struct {
	p     *pool.Pool
	home  int
	list  []int
	away  []int // what left by the step that goes on, and isn't in the pool, rising
	going *twinStep
}

// twinStep is what was begun: of the pool (nil: nothing), and is it over?
type twinStep struct {
	of   *twin
	step *pool.Step
	fill bool
	over bool
}

func (w *twin) fill() *twinStep {
	s := &twinStep{of: w}
	if len(w.list) == 0 && w.going == nil {
		s.fill, s.step = true, w.p.Take(w.home, 8)
	}
	return s
}

func (w *twin) put(n int) *twinStep {
	w.list = append(w.list, n)
	if len(w.list) > 16 {
		return w.leave(8)
	}
	return &twinStep{of: w}
}

func (w *twin) leave(n int) *twinStep {
	s := &twinStep{of: w}
	if w.going == nil && n > 0 {
		w.going, s.step = s, w.p.Back(w.list[:n])
		w.away = slices.Sorted(slices.Values(w.list[:n]))
		w.list = slices.Clone(w.list[n:])
	}
	return s
}

// came notes what is in the pool behind a step of its own: what left and is free now came there by it.
func (w *twin) came() {
	free := w.p.Free()
	w.away = slices.DeleteFunc(w.away, func(n int) bool { return slices.Contains(free, n) })
}

func (s *twinStep) do() bool {
	if s.over {
		return true
	}
	s.over = s.step == nil || s.of.p.Do(s.step)
	if s.of.going == s {
		s.of.came()
	}
	if !s.over {
		return false
	}
	if s.of.going == s {
		s.of.going = nil
	}
	if s.fill && !s.step.None() {
		s.of.home = s.step.Word()
		oldest := len(s.of.list)
		for _, n := range s.step.Got() {
			s.of.list = slices.Insert(s.of.list, oldest, n)
		}
	}
	return true
}

// pair is Caches on one pool, and their twins on another one. A number that is popped may be put back by whoever.
type pair struct {
	t      *testing.T
	p, q   *pool.Pool
	size   int
	caches []*cache.Cache
	twins  []*twin
	steps  []*cache.Step
	plans  []*twinStep
	popped []int
	nones  int
	sames  int
}

func newPair(t *testing.T, size, caches int, rnd *rand.Rand) *pair {
	x := &pair{t: t, p: mustPool(t, size), q: mustPool(t, size), size: size}
	words := uint64(len(x.p.Copy()))
	for range caches {
		home := []int{0, 1, 2, 5, -1, -2, math.MinInt, math.MaxInt}[rnd.Intn(8)]
		x.caches = append(x.caches, mustNew(t, x.p, home))
		x.twins = append(x.twins, &twin{p: x.q, home: int(uint64(home) % words)})
	}
	return x
}

func (x *pair) begin(s *cache.Step, as *twinStep) {
	x.steps, x.plans = append(x.steps, s), append(x.plans, as)
}

func (x *pair) pop(c *cache.Cache, w *twin) {
	n, ok := c.Pop()
	if ok != (len(w.list) > 0) {
		x.t.Fatalf("Pop: %d, %v of %v", n, ok, w.list)
	}
	if !ok {
		return
	}
	if n != w.list[len(w.list)-1] {
		x.t.Fatalf("Pop: %d of %v", n, w.list)
	}
	w.list = w.list[:len(w.list)-1]
	x.popped = append(x.popped, n)
}

func (x *pair) act(rnd *rand.Rand) {
	i := rnd.Intn(len(x.caches))
	c, w := x.caches[i], x.twins[i]
	switch k := rnd.Intn(30); {
	case k < 3:
		x.begin(c.Fill(), w.fill())
	case k < 9:
		x.pop(c, w)
	case k < 14 && len(x.popped) > 0:
		j := rnd.Intn(len(x.popped))
		n := x.popped[j]
		x.popped = slices.Delete(x.popped, j, j+1)
		x.begin(c.Put(n), w.put(n))
	case k == 14:
		x.begin(c.Flush(), w.leave(len(w.list)))
	case k < 18 && len(x.steps) > 0:
		x.again(rnd.Intn(len(x.steps)), i)
	case len(x.steps) > 0:
		j := len(x.steps) - 1 - rnd.Intn(min(len(x.steps), 8))
		if got, want := c.Do(x.steps[j]), x.plans[j].do(); got != want {
			x.t.Fatalf("Do: %v, not %v", got, want)
		}
	}
}

func (x *pair) again(j, i int) {
	s, as := x.steps[j], x.plans[j]
	none := as.fill && as.over && as.step.None()
	a := x.caches[i].Again(s)
	if (a != nil) != none {
		x.t.Fatalf("there is an Again: %v", a != nil)
	}
	if none {
		x.nones++
		x.begin(a, &twinStep{of: x.twins[i], step: x.q.Same(as.step)})
	}
}

// check holds all answers against the twins', and P9.2: each number is at one place.
func (x *pair) check() {
	t := x.t
	if !slices.Equal(x.p.Copy(), x.q.Copy()) {
		t.Fatalf("words %x, not %x", x.p.Copy(), x.q.Copy())
	}
	at := slices.Concat(x.p.Free(), x.popped)
	for i, c := range x.caches {
		w := x.twins[i]
		if !slices.Equal(c.All(), w.list) || c.Home() != w.home || !slices.Equal(c.Leaving(), w.away) {
			t.Fatalf("%v, home %d, leaving %v, not %v, %d, %v", c.All(), c.Home(), c.Leaving(), w.list, w.home, w.away)
		}
		if n, ok := c.Top(); ok != (len(w.list) > 0) || ok && n != w.list[len(w.list)-1] {
			t.Fatalf("Top: %d, %v of %v", n, ok, w.list)
		}
		at = slices.Concat(at, c.All(), c.Leaving())
	}
	slices.Sort(at)
	if !slices.Equal(at, from(0, x.size-1)) {
		t.Fatalf("each number should be at one place: %v", at)
	}
	for i, s := range x.steps {
		as := x.plans[i]
		if s.None() != (as.fill && as.over && as.step.None()) || s.Same() != as.step.Same() {
			t.Fatalf("None %v, Same %v", s.None(), s.Same())
		}
		if s.Same() {
			x.sames++
		}
	}
	// Steps that are done may be forgotten; ones that go back have to be done by somebody.
	if len(x.steps) > 20 && x.plans[0].over {
		x.steps, x.plans = x.steps[1:], x.plans[1:]
	}
}

func TestAgainstATwin(t *testing.T) {
	rnd := rand.New(rand.NewSource(9))
	nones, sames, most := 0, 0, 0
	for range 300 {
		x := newPair(t, []int{1, 5, 20, 32, 40, 70, 100}[rnd.Intn(7)], 1+rnd.Intn(4), rnd)
		for range 400 {
			x.act(rnd)
			x.check()
			most = max(most, len(x.caches[0].All()))
		}
		nones += x.nones
		sames += x.sames
	}
	if nones < 100 || sames < 100 || most < 17 {
		t.Errorf("hardly anything happened: %d, %d, %d", nones, sames, most)
	}
}

// What a worker does, one behind the other; pop to flush are of its Cache.
const (
	fill = iota
	again
	pop
	put // what it popped last
	flush
)

type worker struct {
	c      *cache.Cache
	script []int
	hand   []int
	step   *cache.Step
	none   *cache.Step
	end    int
	first  int
}

// scene is workers with Caches on one pool; freeAt has how many numbers were free in it at each moment.
type scene struct {
	t       *testing.T
	p       *pool.Pool
	size    int
	workers []*worker
	freeAt  []int
	sames   int
	others  int
}

func newScene(t *testing.T, size int, scripts ...[]int) *scene {
	s := &scene{t: t, p: mustPool(t, size), size: size}
	for w, l := range scripts {
		s.workers = append(s.workers, &worker{c: mustNew(t, s.p, w), script: l})
	}
	s.look()
	return s
}

// look holds this moment against P9.2.
func (s *scene) look() {
	free := s.p.Free()
	at := slices.Clone(free)
	for _, w := range s.workers {
		at = slices.Concat(at, w.hand, w.c.All(), w.c.Leaving())
	}
	slices.Sort(at)
	if !slices.Equal(at, from(0, s.size-1)) {
		s.t.Fatalf("each number should be at one place: %v", at)
	}
	s.freeAt = append(s.freeAt, len(free))
}

func (s *scene) turn(w *worker) {
	kind := w.script[0]
	if w.step == nil && !s.begin(w, kind) {
		w.script = w.script[1:]
		s.look()
		return
	}
	done := w.c.Do(w.step)
	s.look()
	if done {
		s.close(w, kind)
		w.script, w.step = w.script[1:], nil
	}
}

// begin begins the worker's next deed; false: it was done at once, or there was nothing to do.
func (s *scene) begin(w *worker, kind int) bool {
	switch kind {
	case fill:
		w.step = w.c.Fill()
	case again:
		if w.step = w.c.Again(w.none); w.step != nil {
			w.first = len(s.freeAt) - 1
		}
	case pop:
		if n, ok := w.c.Pop(); ok {
			w.hand = append(w.hand, n)
		}
	case put:
		if last := len(w.hand) - 1; last >= 0 {
			w.step = w.c.Put(w.hand[last])
			w.hand = w.hand[:last]
		}
	case flush:
		w.step = w.c.Flush()
	}
	return w.step != nil
}

// close notes what a step came to, and holds it against P9.3.
func (s *scene) close(w *worker, kind int) {
	switch {
	case kind == fill:
		w.none, w.end = w.step, len(s.freeAt)-1
	case kind == again && w.step.Same():
		s.sames++
		if slices.Max(s.freeAt[w.end:w.first+1]) > 0 {
			s.t.Fatalf("all was the same, but so many were free between: %v", s.freeAt[w.end:w.first+1])
		}
	case kind == again:
		s.others++
	}
}

func (s *scene) play(pick func(n int) int) {
	for {
		able := slices.DeleteFunc(slices.Clone(s.workers), func(w *worker) bool { return len(w.script) == 0 })
		if len(able) == 0 {
			return
		}
		s.turn(able[pick(len(able))])
	}
}

func TestByAllTurns(t *testing.T) {
	sames, others := 0, 0
	for _, x := range []struct {
		size    int
		scripts [][]int
	}{
		{1, [][]int{{fill, again, fill}, {fill, flush, fill, pop}}},
		{9, [][]int{{fill, pop, put, flush}, {fill, flush}}},
		{33, [][]int{{fill, flush}, {fill, pop, flush}}},
		{2, [][]int{{fill, pop}, {fill, again}, {fill, flush}}},
	} {
		runs := explore.Each(func(pick func(int) int) {
			s := newScene(t, x.size, x.scripts...)
			s.play(pick)
			sames += s.sames
			others += s.others
		})
		if runs < 50 {
			t.Errorf("by %d turns alone", runs)
		}
	}
	if sames == 0 || others == 0 {
		t.Errorf("all was the same %d times, and wasn't %d times", sames, others)
	}
}

func TestByRandomTurns(t *testing.T) {
	rnd := rand.New(rand.NewSource(92))
	sames, others := 0, 0
	for range 1500 {
		scripts := make([][]int, 1+rnd.Intn(5))
		for w := range scripts {
			for range 40 {
				// There is more to pop and to put than else, so that some spill.
				scripts[w] = append(scripts[w], []int{fill, fill, again, again, pop, pop, pop, pop, put, put, flush}[rnd.Intn(11)])
			}
		}
		s := newScene(t, 1+rnd.Intn(50), scripts...)
		stay, left := 0, 0
		s.play(func(n int) int {
			if left == 0 {
				stay, left = rnd.Int(), 1+rnd.Intn(4)
			}
			left--
			return stay % n
		})
		sames += s.sames
		others += s.others
	}
	if sames < 100 || others < 100 {
		t.Errorf("all was the same %d times, and wasn't %d times", sames, others)
	}
}
