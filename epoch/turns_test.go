package epoch_test

import (
	"math/rand"
	"slices"
	"testing"

	"fanlight/api"
	"fanlight/epoch"
	"fanlight/explore"
)

// plain is what Epochs are to one who is alone: plain numbers, of which each worker's is -1, if it isn't pinned.
type plain struct {
	now   int
	pins  []int
	given [][]plainGift
}

type plainGift struct {
	what uint64
	at   int
}

// plainStep is a Pin of worker, or an Advance (worker is -1): how many of its steps are done, and what it read.
type plainStep struct {
	worker, steps, read int
	done, won           bool
}

func (p *plain) do(s *plainStep) bool {
	if s.done {
		return true
	}
	switch {
	case s.steps == 0:
		s.read = p.now
	case s.worker >= 0 && s.steps == 1:
		p.pins[s.worker] = s.read
	case s.worker >= 0:
		s.done = p.now == s.read
		s.steps = -1
	case s.steps <= len(p.pins):
		pin := p.pins[s.steps-1]
		s.done = pin != -1 && pin != s.read
	default:
		s.done, s.won = true, p.now == s.read
		if s.won {
			p.now++
		}
	}
	s.steps++
	return s.done
}

func (p *plain) take(w int) []uint64 {
	var out []uint64
	var rest []plainGift
	for _, g := range p.given[w] {
		if p.now-g.at >= 2 {
			out = append(out, g.what)
		} else {
			rest = append(rest, g)
		}
	}
	p.given[w] = rest
	return out
}

// pair is Epochs and what they should be, and all Steps that began.
type pair struct {
	e     *epoch.Epochs
	p     plain
	steps []*epoch.Step
	plain []*plainStep
}

func newPair(t *testing.T, workers int) *pair {
	x := &pair{e: mustNew(t, workers)}
	x.p.given = make([][]plainGift, workers)
	for range workers {
		x.p.pins = append(x.p.pins, -1)
	}
	return x
}

// act does something, as rnd has it, to both.
func (x *pair) act(t *testing.T, rnd *rand.Rand) {
	t.Helper()
	w := rnd.Intn(len(x.p.pins))
	switch k := rnd.Intn(20); {
	case k == 0:
		x.steps = append(x.steps, x.e.Pin(w))
		x.plain = append(x.plain, &plainStep{worker: w})
	case k == 1:
		x.steps = append(x.steps, x.e.Advance())
		x.plain = append(x.plain, &plainStep{worker: -1})
	case k == 2:
		x.e.Unpin(w)
		x.p.pins[w] = -1
	case k == 3:
		what := rnd.Uint64()
		if err := x.e.Give(w, what); err != api.OK {
			t.Fatal(err)
		}
		x.p.given[w] = append(x.p.given[w], plainGift{what, x.p.now})
	case k == 4:
		if got, want := x.e.Take(w), x.p.take(w); !slices.Equal(got, want) {
			t.Fatalf("Take: %v, not %v", got, want)
		}
	case len(x.steps) > 0:
		i := len(x.steps) - 1 - rnd.Intn(min(len(x.steps), 5))
		if got, want := x.e.Do(x.steps[i]), x.p.do(x.plain[i]); got != want {
			t.Fatalf("Do of %+v: %v", *x.plain[i], got)
		}
	}
}

func (x *pair) check(t *testing.T) {
	t.Helper()
	want := []uint64{uint64(x.p.now)}
	for w, pin := range x.p.pins {
		want = append(want, uint64(pin+1))
		if x.e.Pinned(w) != pin {
			t.Fatalf("Pinned(%d): %d, not %d", w, x.e.Pinned(w), pin)
		}
		var given []uint64
		for _, g := range x.p.given[w] {
			given = append(given, g.what)
		}
		if x.e.Waiting(w) != len(given) || !slices.Equal(x.e.Given(w), given) {
			t.Fatalf("Given(%d): %v, not %v", w, x.e.Given(w), given)
		}
	}
	if x.e.Now() != x.p.now || !slices.Equal(x.e.Copy(), want) {
		t.Fatalf("Copy: %v, not %v", x.e.Copy(), want)
	}
	for i, s := range x.steps {
		if s.Won() != x.plain[i].won {
			t.Fatalf("Won of %+v: %v", *x.plain[i], s.Won())
		}
	}
}

func TestAgainstPlainNumbers(t *testing.T) {
	rnd := rand.New(rand.NewSource(7))
	furthest := 0
	for range 400 {
		x := newPair(t, 1+rnd.Intn(4))
		for range 500 {
			x.act(t, rnd)
			x.check(t)
		}
		furthest = max(furthest, x.p.now)
	}
	if furthest < 5 {
		t.Error("the epoch hardly went on:", furthest)
	}
}

// What an actor does, one behind the other.
const (
	pin = iota
	unpin
	give
	bringOn
	take
	kinds
)

// actor is who does things by turns: a worker, or (worker is -1) one who brings on the epoch alone.
type actor struct {
	worker int
	script []int
	step   *epoch.Step
}

// stretch is a time in which a worker is pinned.
type stretch struct{ worker, number int }

// stage is actors on Epochs, and what is known of them: which stretch each worker is in (0: none), and when what was given up.
type stage struct {
	t      *testing.T
	e      *epoch.Epochs
	actors []actor
	in     []int
	last   int
	seenBy [][]stretch // of each thing, who was pinned when it was given up
	taken  []bool
	told   int
}

func newStage(t *testing.T, workers int, actors ...actor) *stage {
	return &stage{t: t, e: mustNew(t, workers), actors: actors, in: make([]int, workers)}
}

func (s *stage) over(a int) bool { return len(s.actors[a].script) == 0 }

// turn lets an actor do one step.
func (s *stage) turn(number int) {
	a := &s.actors[number]
	over := true
	switch a.script[0] {
	case pin:
		over = s.pin(a)
	case unpin:
		s.in[a.worker] = 0
		s.e.Unpin(a.worker)
	case give:
		s.give(a.worker)
	case bringOn:
		if a.step == nil {
			a.step = s.e.Advance()
		}
		over = s.e.Do(a.step)
	case take:
		s.take(a.worker)
	}
	if over {
		a.script, a.step = a.script[1:], nil
	}
}

func (s *stage) pin(a *actor) bool {
	if a.step == nil {
		s.in[a.worker] = 0
		a.step = s.e.Pin(a.worker)
	}
	if !s.e.Do(a.step) {
		return false
	}
	s.last++
	s.in[a.worker] = s.last
	return true
}

func (s *stage) give(w int) {
	var seen []stretch
	for x, n := range s.in {
		if n != 0 {
			seen = append(seen, stretch{x, n})
		}
	}
	s.e.Give(w, uint64(len(s.seenBy)))
	s.seenBy = append(s.seenBy, seen)
	s.taken = append(s.taken, false)
}

func (s *stage) take(w int) {
	for _, what := range s.e.Take(w) {
		if s.taken[what] {
			s.t.Fatalf("thing %d is told twice", what)
		}
		s.taken[what] = true
		s.told++
		for _, x := range s.seenBy[what] {
			if s.in[x.worker] == x.number {
				s.t.Fatalf("thing %d is told to %d, but %d is pinned as it was", what, w, x.worker)
			}
		}
	}
}

// close lets nobody be pinned, and two Advances be done: then all must be told.
func (s *stage) close() {
	for w := range s.in {
		s.in[w] = 0
		s.e.Unpin(w)
	}
	for range 2 {
		if !advance(s.t, s.e) {
			s.t.Fatal("an Advance lost, though nobody is pinned")
		}
	}
	for w := range s.in {
		left := s.e.Given(w)
		told := s.told
		s.take(w)
		if s.e.Waiting(w) != 0 || s.told-told != len(left) {
			s.t.Fatalf("of %v %d were told", left, s.told-told)
		}
	}
	if slices.Contains(s.taken, false) {
		s.t.Fatal("a thing was lost", s.taken)
	}
}

// allTurns does what build builds by all turns that there are: how many, and by how many of them something was told ahead of the close.
func allTurns(build func() *stage) (runs, telling int) {
	runs = explore.Each(func(pick func(int) int) {
		s := build()
		s.play(pick)
		if s.told > 0 {
			telling++
		}
		s.close()
	})
	return runs, telling
}

// play lets all actors go on to their ends, by picks.
func (s *stage) play(pick func(n int) int) {
	for {
		var able []int
		for a := range s.actors {
			if !s.over(a) {
				able = append(able, a)
			}
		}
		if len(able) == 0 {
			return
		}
		s.turn(able[pick(len(able))])
	}
}

func TestByAllTurns(t *testing.T) {
	for _, build := range []func() *stage{
		func() *stage {
			return newStage(t, 2, actor{worker: 0, script: []int{pin, unpin}}, actor{worker: 1, script: []int{give, bringOn, bringOn, take}})
		},
		func() *stage {
			return newStage(t, 2, actor{worker: 0, script: []int{pin, unpin, pin}}, actor{worker: 1, script: []int{give, bringOn, bringOn, take}})
		},
		func() *stage {
			return newStage(t, 2, actor{worker: 1, script: []int{pin, pin}}, actor{worker: 0, script: []int{give, bringOn, bringOn, take}})
		},
		func() *stage {
			return newStage(t, 2, actor{worker: 0, script: []int{pin}}, actor{worker: 1, script: []int{give, bringOn, take}}, actor{worker: -1, script: []int{bringOn}})
		},
		func() *stage {
			return newStage(t, 1, actor{worker: 0, script: []int{pin, give, take, unpin, take}}, actor{worker: -1, script: []int{bringOn, bringOn}})
		},
	} {
		runs, telling := allTurns(build)
		if runs < 100 || telling == 0 {
			t.Errorf("%d turns, of which %d told something", runs, telling)
		}
	}
}

// randomScript is a worker's who does one thing to its end ahead of the next, whatever that is.
func randomScript(rnd *rand.Rand, n int) []int {
	l := make([]int, n)
	for i := range l {
		l[i] = rnd.Intn(kinds)
	}
	return l
}

func TestByRandomTurns(t *testing.T) {
	rnd := rand.New(rand.NewSource(72))
	told := 0
	for range 6000 {
		workers := 1 + rnd.Intn(4)
		var actors []actor
		for w := range workers {
			actors = append(actors, actor{worker: w, script: randomScript(rnd, 12)})
		}
		for range rnd.Intn(3) {
			actors = append(actors, actor{worker: -1, script: []int{bringOn, bringOn, bringOn, bringOn}})
		}
		s := newStage(t, workers, actors...)
		for i := 0; i < 100000 && len(s.actors) > 0; i++ {
			a := rnd.Intn(len(s.actors))
			if s.over(a) {
				s.actors = slices.Delete(s.actors, a, a+1)
				continue
			}
			// Some stand still while others go on by many steps.
			for range 1 + rnd.Intn(6) {
				if !s.over(a) {
					s.turn(a)
				}
			}
		}
		told += s.told
		s.close()
	}
	if told < 1000 {
		t.Errorf("ahead of their closes only %d things were told", told)
	}
}

func TestTwoAdvancesLetTakeTellAll(t *testing.T) {
	for _, workers := range []int{1, 2, 3, 64} {
		for from := range 4 {
			e := mustNew(t, workers)
			var want []uint64
			for i := range from {
				e.Give(workers-1, uint64(i))
				want = append(want, uint64(i))
				advance(t, e)
			}
			for w := range workers {
				finish(t, e, e.Pin(w))
			}
			e.Give(workers-1, 100)
			for w := range workers {
				e.Unpin(w)
			}
			want = append(want, 100)
			if !advance(t, e) || !advance(t, e) {
				t.Error("it lost")
			}
			wantThings(t, "Take", e.Take(workers-1), want...)
			if e.Waiting(workers-1) != 0 {
				t.Error(e.Given(workers - 1))
			}
		}
	}
}
