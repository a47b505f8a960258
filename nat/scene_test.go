package nat_test

import (
	"maps"
	"math"
	"math/rand"
	"slices"
	"testing"

	"fanlight/api"
	"fanlight/explore"
	"fanlight/model"
	"fanlight/nat"
	"fanlight/plan"
)

// actor is a worker who has deeds to do, one behind the other.
type actor struct {
	deeds []deed
	now   *watch // of the one that it does; nil: it does none
}

// watch is a deed that goes on, and what was at the moments since it began.
type watch struct {
	deed
	begin   int
	dos     int
	changes int // of cells, by others
	ends    int // of a sweep: how many were told by now

	entry  int // of a frame
	flow   api.Flow
	made   int  // the port of the place that it made last
	noPort bool // at one of the moments its flow had no binding, and no port was free for it
	full   bool // some bucket was full
}

// scene is workers on a translator. Whatever is promised is held against each moment: behind each step of one of them.
type scene struct {
	t        *testing.T
	n        *nat.Nat
	c        plan.Config
	actors   []actor
	moment   int
	entries  []entry
	claims   []nat.Claim // of each place, at the last moment
	lookers  [][]bool    // of each place: who is pinned since it was Live, or stood in the table
	bindings []model.Binding
	events   map[string]int
	path     []int
}

// newScene is of a translator by which some worker has done what came ahead.
func newScene(t *testing.T, c plan.Config, ahead ...[]deed) *scene {
	t.Helper()
	s := &scene{t: t, n: newNat(t, c), c: c, actors: make([]actor, c.Workers), events: map[string]int{}}
	for i := range plan.Places(c) {
		s.claims = append(s.claims, s.claim(i))
		s.lookers = append(s.lookers, make([]bool, c.Workers))
	}
	for w, l := range ahead {
		s.act(w, l...).all(w)
	}
	return s
}

// act gives a worker deeds.
func (s *scene) act(w int, l ...deed) *scene {
	s.actors[w].deeds = l
	return s
}

// some lets a worker do so many steps, if it has so many to do; all: all that it has to do.
func (s *scene) some(a, steps int) *scene {
	for ; steps > 0 && s.able(a); steps-- {
		s.turn(a)
	}
	return s
}

func (s *scene) all(a int) *scene { return s.some(a, math.MaxInt) }

func (s *scene) fail(what string, more ...any) {
	s.t.Helper()
	s.t.Fatalf("%s %+v\nbindings %+v, claims %v\nby turns %v", what, more, s.n.Bindings(), s.claims, s.path)
}

func (s *scene) able(a int) bool { return s.actors[a].now != nil || len(s.actors[a].deeds) > 0 }

func (s *scene) list() []int {
	var l []int
	for a := range s.actors {
		if s.able(a) {
			l = append(l, a)
		}
	}
	return l
}

// turn is a moment: a worker begins its next deed, or does one step.
func (s *scene) turn(a int) {
	s.moment++
	s.path = append(s.path, a)
	cells := s.n.Copy()
	if s.actors[a].now == nil {
		s.begin(a)
		if differ(cells, s.n.Copy()) > 0 {
			s.fail("a cell was changed by what only begins")
		}
		s.look(a)
		return
	}
	done := s.n.Do(a)
	s.count(a, differ(cells, s.n.Copy()))
	s.look(a)
	if done == s.n.Busy(a) {
		s.fail("is it done?", done)
	}
	if done {
		s.close(a)
	}
}

func (s *scene) begin(a int) {
	x := &s.actors[a]
	d := x.deeds[0]
	x.deeds = x.deeds[1:]
	x.now = &watch{deed: d, begin: s.moment, made: -1}
	if e := begin(s.n, a, d); e != api.OK {
		s.fail("it can't begin", a, d, e)
	}
	if d.sweep {
		return
	}
	x.now.flow, _ = model.Whose(s.c, d.out, d.frame)
	x.now.entry = len(s.entries)
	s.entries = append(s.entries, entry{begin: s.moment, end: -1, call: model.Call{Out: d.out, Frame: d.frame, Tick: d.tick}})
}

// count holds a step against P16.7.
func (s *scene) count(a, changed int) {
	if changed > 1 {
		s.fail("so many cells were changed by one step:", changed)
	}
	w := s.actors[a].now
	w.dos++
	bound := most(s.c, w.deed)
	if w.dos > bound+bound*w.changes {
		s.fail("it has no end:", w.dos, w.changes)
	}
	for b := range s.actors {
		if b != a && s.actors[b].now != nil {
			s.actors[b].now.changes += changed
		}
	}
}

// claim is a port's only one: P16.3.
func (s *scene) claim(i int) nat.Claim {
	l := s.n.Claims(plan.Port(s.c, i))
	if len(l) != 1 {
		s.fail("a port should be just one's:", i, l)
	}
	return l[0]
}

// look holds this moment, behind a step of a, against the last one.
func (s *scene) look(a int) {
	for i, was := range s.claims {
		if now := s.claim(i); now != was {
			s.claims[i] = now
			s.pass(a, i, was, now)
		}
		s.noteLookers(i)
	}
	s.noteBindings(a)
	for b := range s.actors {
		if w := s.actors[b].now; w != nil && !w.sweep {
			s.note(b, w)
		}
	}
}

// noteLookers notes who may look yet at a place that was there: those that were pinned when it became Gone, or while it stood in the table behind that, and are since.
func (s *scene) noteLookers(i int) {
	stands := s.claims[i].Kind == nat.Retired && s.n.InTable(i)
	for b, looks := range s.lookers[i] {
		s.lookers[i][b] = (looks || stands) && s.n.Pinned(b)
	}
}

// pass is a port that was another one's at the last moment.
func (s *scene) pass(a, i int, was, now nat.Claim) {
	mine := func(kind int) nat.Claim { return nat.Claim{Kind: kind, Worker: a} }
	pooled, bound := nat.Claim{Kind: nat.Pooled, Worker: -1}, nat.Claim{Kind: nat.Bound, Worker: -1}
	switch {
	case was == pooled && now == mine(nat.Cached):
		s.events["filled"]++
	case was == mine(nat.Cached) && now == pooled:
		s.events["spilled"]++
	case was == mine(nat.Cached) && now == bound:
		s.events["made"]++
		if slices.Contains(s.lookers[i], true) {
			s.fail("it was made again, and one is pinned who could have seen it:", i, s.lookers[i])
		}
	case was == bound && now == mine(nat.Cached):
		s.events["unmade"]++
	case was == bound && now == mine(nat.Retired):
		s.noteEnd(a, i)
	case was == mine(nat.Retired) && now == mine(nat.Cached):
		s.events["reused"]++
	default:
		s.fail("it can't go so:", a, i, was, now)
	}
}

// noteEnd notes the end of the binding at place i, which must be told now, behind those that were told.
func (s *scene) noteEnd(a, i int) {
	w := s.actors[a].now
	proto, port := plan.Port(s.c, i)
	l := s.n.Ended(a)
	if !w.sweep || len(l) != w.ends+1 || l[w.ends] != (nat.End{Proto: proto, Port: port}) {
		s.fail("an end isn't told:", proto, port, l)
	}
	w.ends++
	s.events["ended"]++
	s.entries = append(s.entries, entry{begin: w.begin, end: s.moment, ends: true, call: model.Call{Tick: w.tick}, proto: proto, port: port})
	for b := range s.lookers[i] {
		s.lookers[i][b] = s.n.Pinned(b)
		if s.lookers[i][b] {
			s.events["seen when it ended"]++
		}
	}
}

// noteBindings counts those that one made Live for another.
func (s *scene) noteBindings(a int) {
	l := s.n.Bindings()
	for _, x := range l {
		has := slices.ContainsFunc(s.bindings, func(y model.Binding) bool { return x.Flow.Proto == y.Flow.Proto && x.Port == y.Port })
		w := s.actors[a].now
		if !has && (w.made != x.Port || w.flow.Proto != x.Flow.Proto) {
			s.events["made live by another"]++
		}
	}
	s.bindings = l
}

// note is what this moment is to a frame that goes on.
func (s *scene) note(b int, w *watch) {
	if port := s.n.Holds(b); port >= 0 {
		w.made = port
		s.entries[w.entry].call.Port = port
		if i := plan.Place(s.c, w.flow.Proto, port); i < 0 || s.claims[i].Kind != nat.Bound {
			s.fail("a port that is held isn't bound:", b, port)
		}
	}
	w.full = w.full || s.n.FullBucket()
	if slices.ContainsFunc(s.bindings, func(x model.Binding) bool { return x.Flow == w.flow }) {
		return
	}
	for i, c := range s.claims {
		proto, _ := plan.Port(s.c, i)
		if proto == w.flow.Proto && (c.Kind == nat.Pooled || c == nat.Claim{Kind: nat.Cached, Worker: b}) {
			return
		}
	}
	w.noPort = true
}

// close is a deed that is done.
func (s *scene) close(a int) {
	w := s.actors[a].now
	s.actors[a].now = nil
	if s.n.Pinned(a) || s.n.Holds(a) != -1 {
		s.fail("it is done, and pinned, or holds a port:", a)
	}
	if w.sweep {
		if len(s.n.Ended(a)) != w.ends {
			s.fail("so many ends are told, of", s.n.Ended(a), w.ends)
		}
		return
	}
	answer, ok := s.n.Told(a)
	if !ok {
		s.fail("nothing was told", a)
	}
	x := &s.entries[w.entry]
	x.end, x.answer = s.moment, answer
	x.call.Port = s.judge(a, w, answer)
}

// judge holds what a frame was told against P16.4: which port the model is to be told.
func (s *scene) judge(a int, w *watch, answer model.Answer) int {
	switch {
	case answer.Err == api.ErrNoPort:
		s.events["no port"]++
		if !w.noPort {
			s.fail("there was a port at each moment, or its flow had a binding", a)
		}
		return -1
	case answer.Err == api.ErrFull:
		s.events["full"]++
		i := plan.Place(s.c, w.flow.Proto, w.made)
		if !w.full || i < 0 || s.claims[i] != (nat.Claim{Kind: nat.Cached, Worker: a}) {
			s.fail("no bucket was full, or its port isn't in its cache again", a, w.full, w.made)
		}
		return -2
	case answer.Err == api.ErrNone:
		s.events["none"]++
	case answer.Err == api.OK && w.out:
		s.events["went out"]++
		return portOf(s.t, answer.Frame)
	case answer.Err == api.OK:
		s.events["came in"]++
	}
	return 0
}

// finish holds all that was told against P16.2, and what is left at the end against P16.6.
func (s *scene) finish() {
	s.t.Helper()
	s.explain()
	wantNothingLeft(s.t, s.n)
}

func (s *scene) explain() {
	s.t.Helper()
	if !inOrder(s.c, s.entries) {
		for _, x := range s.entries {
			s.t.Logf("%+v", x)
		}
		s.fail("there is no order of what was told")
	}
}

// play lets all go on to their ends, by picks.
func (s *scene) play(pick func(able []int) int) {
	s.t.Helper()
	for l := s.list(); len(l) > 0; l = s.list() {
		s.turn(pick(l))
	}
	s.finish()
}

// some is who does the next step: one goes on by several while others stand still, some for long.
func some(rnd *rand.Rand) func([]int) int {
	who, left, several := 0, 0, 1+rnd.Intn(6)
	return func(able []int) int {
		if left == 0 || !slices.Contains(able, who) {
			who, left = able[rnd.Intn(len(able))], 1+rnd.Intn(several)
			if rnd.Intn(8) == 0 {
				left = 60
			}
		}
		left--
		return who
	}
}

// tryAll goes through all turns of a scene with so many switches: each of these events must come to be by some of them. It tells all that did.
func tryAll(t *testing.T, name string, most int, build func() *scene, want ...string) map[string]int {
	t.Helper()
	events := map[string]int{}
	runs := explore.Each(func(pick func(int) int) {
		s := build()
		clear(s.events)
		s.play(explore.Switches(most, pick))
		for e, n := range s.events {
			events[e] += n
		}
	})
	for _, e := range want {
		if events[e] == 0 {
			t.Errorf("%s: by %d turns none came to %q: %v", name, runs, e, events)
		}
	}
	t.Logf("%s: by %d turns %v", name, runs, slices.Sorted(maps.Keys(events)))
	return events
}
