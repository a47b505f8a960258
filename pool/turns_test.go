package pool_test

import (
	"math/rand"
	"slices"
	"testing"

	"fanlight/explore"
	"fanlight/pool"
)

// deed is what an actor does: a Take; or (back) it gives back what it has; or (again) a Same, if its last Take found none.
type deed struct {
	from, most  int
	back, again bool
}

// actor is who takes numbers, and gives back only what it has.
type actor struct {
	script []deed
	has    []int
	step   *pool.Step
	none   *pool.Step // its last Take, if that found none
	end    int        // at which moment that was done
	first  int        // at which moment the first step of a Same was
}

// scene is actors on a Pool. After each step it is a moment later; freeAt has how many were free at each.
type scene struct {
	t      *testing.T
	p      *pool.Pool
	size   int
	actors []actor
	all    int // how many numbers are free or somebody's
	freeAt []int
	sames  int
	others int
}

// newScene has a Pool of size of which just some are free, and what is given to actors is theirs.
func newScene(t *testing.T, size int, free []int, actors ...actor) *scene {
	s := &scene{t: t, p: mustNew(t, size), size: size, actors: actors}
	empty(t, s.p)
	back(t, s.p, free...)
	s.look()
	return s
}

func (s *scene) over(a int) bool { return len(s.actors[a].script) == 0 }

// look holds this moment against P8.2: each number is free, or one actor's, or given back by one and not free yet; but for those that nobody had from the start.
func (s *scene) look() {
	count := make([]int, s.size)
	free := s.p.Free()
	for _, n := range free {
		count[n]++
	}
	for i := range s.actors {
		for _, n := range s.actors[i].has {
			count[n]++
		}
		for _, n := range s.actors[i].step.Left() {
			count[n]++
		}
	}
	sum := 0
	for n, c := range count {
		sum += c
		if c > 1 {
			s.t.Fatalf("number %d is two's: %v", n, count)
		}
	}
	if len(s.freeAt) == 0 {
		s.all = sum
	}
	if sum != s.all {
		s.t.Fatalf("of %d numbers %d are there yet: %v", s.all, sum, count)
	}
	s.freeAt = append(s.freeAt, len(free))
}

func (s *scene) turn(number int) {
	a := &s.actors[number]
	d := a.script[0]
	if a.step == nil && !s.begin(a, d) {
		a.script = a.script[1:]
		return
	}
	done := s.p.Do(a.step)
	if done && !d.back && !d.again {
		a.has = append(a.has, a.step.Got()...)
	}
	s.look()
	if !done {
		return
	}
	s.close(a, d)
	a.script, a.step = a.script[1:], nil
}

func (s *scene) begin(a *actor, d deed) bool {
	switch {
	case d.again && a.none == nil:
		return false
	case d.again:
		a.step, a.first = s.p.Same(a.none), len(s.freeAt)-1
	case d.back:
		a.step, a.has = s.p.Back(a.has), nil
	default:
		a.step = s.p.Take(d.from, d.most)
	}
	return true
}

// close notes what a step came to, and holds it against P8.3.
func (s *scene) close(a *actor, d deed) {
	switch {
	case d.again && a.step.Same():
		s.sames++
		if slices.Max(s.freeAt[a.end:a.first+1]) > 0 {
			s.t.Fatalf("all was the same, but so many were free between: %v", s.freeAt[a.end:a.first+1])
		}
	case d.again:
		s.others++
	case !d.back:
		a.none = nil
		if a.step.None() {
			a.none, a.end = a.step, len(s.freeAt)-1
		}
	}
}

// play lets all actors go on to their ends, by picks.
func (s *scene) play(pick func(n int) int) {
	for {
		var able []int
		for a := range s.actors {
			if !s.over(a) {
				able = append(able, a)
			}
		}
		if len(able) == 0 {
			return
		}
		s.turn(able[pick(len(able))])
	}
}

func takes(from, most int) deed { return deed{from: from, most: most} }

var (
	gives = deed{back: true}
	again = deed{again: true}
)

func TestNoNumberIsTwosByAllTurns(t *testing.T) {
	for _, build := range []func() *scene{
		func() *scene {
			return newScene(t, 3, []int{0, 2}, actor{script: []deed{takes(0, 1), gives}}, actor{script: []deed{takes(0, 1)}}, actor{script: []deed{takes(0, 2)}})
		},
		func() *scene {
			one := actor{script: []deed{takes(0, 1), gives, takes(0, 1)}}
			return newScene(t, 2, []int{0, 1}, one, one)
		},
		func() *scene {
			return newScene(t, 33, []int{5, 32}, actor{script: []deed{takes(0, 1), gives}}, actor{script: []deed{takes(1, 8), takes(0, 1)}})
		},
		func() *scene {
			return newScene(t, 64, []int{1}, actor{has: []int{40, 3, 41}, script: []deed{gives, takes(1, 2)}}, actor{script: []deed{takes(0, 32)}})
		},
		func() *scene {
			return newScene(t, 3, nil, actor{has: []int{0, 1}, script: []deed{gives, takes(0, 2)}}, actor{has: []int{2}, script: []deed{gives, takes(0, 1)}})
		},
	} {
		runs := explore.Each(func(pick func(int) int) { build().play(pick) })
		if runs < 50 {
			t.Errorf("by %d turns alone", runs)
		}
	}
}

func TestNoneWasFreeByAllTurns(t *testing.T) {
	looks := actor{script: []deed{takes(1, 1), again}}
	for _, build := range []func() *scene{
		func() *scene {
			return newScene(t, 33, nil, looks, actor{has: []int{32}, script: []deed{gives, takes(1, 1)}})
		},
		func() *scene {
			return newScene(t, 33, []int{32}, looks, actor{script: []deed{takes(0, 1), gives, takes(0, 1)}})
		},
		func() *scene {
			return newScene(t, 34, []int{4}, looks, actor{script: []deed{takes(0, 1)}}, actor{has: []int{33}, script: []deed{gives}})
		},
		func() *scene {
			return newScene(t, 1, nil, looks, looks, actor{has: []int{0}, script: []deed{gives, takes(0, 1)}})
		},
	} {
		sames, others := 0, 0
		explore.Each(func(pick func(int) int) {
			s := build()
			s.play(pick)
			sames += s.sames
			others += s.others
		})
		if sames == 0 || others == 0 {
			t.Errorf("all was the same %d times, and wasn't %d times", sames, others)
		}
	}
}

func TestByRandomTurns(t *testing.T) {
	rnd := rand.New(rand.NewSource(82))
	sames, others := 0, 0
	for range 1500 {
		size := 1 + rnd.Intn(70)
		actors := make([]actor, 1+rnd.Intn(5))
		for i := range actors {
			for range 10 {
				actors[i].script = append(actors[i].script, []deed{takes(rnd.Int(), 1+rnd.Intn(32)), gives, again}[rnd.Intn(3)])
			}
		}
		s := newScene(t, size, rnd.Perm(size)[:rnd.Intn(min(size, 12)+1)], actors...)
		stay, left := 0, 0
		s.play(func(n int) int {
			// Some go on by several steps while others stand still.
			if left == 0 {
				stay, left = rnd.Int(), 1+rnd.Intn(4)
			}
			left--
			return stay % n
		})
		sames += s.sames
		others += s.others
	}
	if sames < 100 || others < 100 {
		t.Errorf("all was the same %d times, and wasn't %d times", sames, others)
	}
}
