package drive_test

import (
	"bytes"
	"slices"
	"testing"

	"fanlight/api"
	"fanlight/drive"
	"fanlight/model"
	"fanlight/nat"
	"fanlight/plan"
	"fanlight/spread"
	"fanlight/track"
)

// gets is how many Picks getting a number takes, of a worker who has nothing else to do.
const gets = 3

// scene is a Drive whose workers do their steps by turns. What the chapter says that each does is held against each step.
type scene struct {
	t       *testing.T
	d       *drive.Drive
	n       *nat.Nat
	c       plan.Config
	m       *model.Nat // to which the same is done, if there is one worker alone
	tick    int
	came    []frame // by their numbers
	workers []worker
	counts  drive.Counts
	path    []int
}

type frame struct {
	out   bool
	bytes []byte
}

// worker is what one is to do, and what it does.
type worker struct {
	waiting []int // the numbers of the frames that wait
	getting int   // how many Picks it had by now that get the next one
	swept   int
	does    string // "a frame", "a sweep", or nothing
	frame   int
	tick    int           // of what it does
	seen    map[bond]bool // all that were there since it began
	outs    []drive.Out
}

// bond is a flow that has a port.
type bond struct {
	flow api.Flow
	port int
}

func newScene(t *testing.T, c plan.Config) *scene {
	t.Helper()
	d := newDrive(t, c)
	s := &scene{t: t, d: d, n: d.Nat(), c: c, workers: make([]worker, c.Workers)}
	if c.Workers == 1 {
		s.m, _ = model.New(c)
	}
	return s
}

func (s *scene) fail(what string, more ...any) {
	s.t.Helper()
	s.t.Fatalf("%s %+v\nbindings %+v by turns %v", what, more, s.n.Bindings(), s.path)
}

func (s *scene) put(out bool, f []byte) *scene {
	s.t.Helper()
	w := spread.Worker(s.c.Workers, out, f)
	x := &s.workers[w]
	number, want := len(s.came), api.OK
	if len(x.waiting) == s.c.Ring {
		number, want = -1, api.ErrFull
	}
	if n, k, e := s.d.Put(out, f); n != number || k != w || e != want {
		s.fail("Put:", n, k, e, "not", number, w, want)
	}
	if want != api.OK {
		s.counts.Full++
		return s
	}
	s.counts.Came++
	s.came = append(s.came, frame{out, f})
	x.waiting = append(x.waiting, number)
	return s
}

func (s *scene) time(by int) *scene {
	s.t.Helper()
	wantTick(s.t, s.d, by)
	s.tick += by
	return s
}

func (s *scene) able() []int {
	var l []int
	for w := range s.workers {
		if x := &s.workers[w]; x.does != "" || x.swept != s.tick || len(x.waiting) > 0 {
			l = append(l, w)
		}
	}
	return l
}

// turn lets a worker do a step: it must be one of what it is to do.
func (s *scene) turn(w int) {
	s.t.Helper()
	s.path = append(s.path, w)
	x := &s.workers[w]
	able := slices.Contains(s.able(), w)
	cells := s.n.Copy()
	idle := s.d.Pick(w)
	changed := differ(cells, s.n.Copy())
	if idle == able || changed > 1 || changed > 0 && x.does == "" {
		s.fail("worker, had it nothing to do, so many cells changed:", w, idle, changed)
	}
	s.note()
	switch busy := s.n.Busy(w); {
	case x.does == "":
		s.begin(w, busy)
	case !busy:
		s.end(w)
	}
	s.look()
}

// begin is a step of a worker that did nothing ahead of it.
func (s *scene) begin(w int, busy bool) {
	s.t.Helper()
	x := &s.workers[w]
	switch {
	case x.swept != s.tick:
		if !busy {
			s.fail("it should sweep", w)
		}
		x.does, x.swept = "a sweep", s.tick
	case len(x.waiting) > 0:
		x.getting++
		if busy != (x.getting == gets) {
			s.fail("it should get a frame by so many steps:", w, gets, x.getting)
		}
		if !busy {
			return
		}
		x.does, x.frame, x.getting = "a frame", x.waiting[0], 0
		x.waiting = x.waiting[1:]
	case busy:
		s.fail("it has nothing to do", w)
	}
	x.tick = s.tick
	x.seen = map[bond]bool{}
	s.note()
}

// end is the last step of what a worker did.
func (s *scene) end(w int) {
	s.t.Helper()
	x := &s.workers[w]
	if x.does == "a sweep" {
		s.counts.Ended += len(s.n.Ended(w))
		s.expire(x.tick)
	} else {
		l := s.d.Outs(w)
		if len(l) != len(x.outs)+1 || l[len(l)-1].Number != x.frame {
			s.fail("it did a frame:", w, x.frame, l)
		}
		s.judge(w, l[len(l)-1].Answer)
	}
	x.does = ""
}

// judge holds what a frame was told against what the chapters let be.
func (s *scene) judge(w int, a model.Answer) {
	s.t.Helper()
	x := &s.workers[w]
	f := s.came[x.frame]
	flow, e := model.Whose(s.c, f.out, f.bytes)
	port := 0
	switch {
	case e != api.OK && (a.Err != e || a.Frame != nil):
		s.fail("it can't be got", w, e, a)
	case a.Err == api.ErrNoPort:
		port = -1
	case a.Err == api.ErrFull:
		port = -2
	case a.Err == api.OK && f.out:
		port = portOf(s.t, a.Frame)
		if !x.seen[bond{flow, port}] {
			s.fail("it went out by another port than its flow's:", w, flow, port, x.seen)
		}
	}
	if s.m != nil {
		if want := s.m.Step(model.Call{Out: f.out, Frame: f.bytes, Tick: x.tick, Port: port}); want.Err != a.Err || !bytes.Equal(want.Frame, a.Frame) {
			s.fail("it was told, and the model tells:", a, want)
		}
	}
	if a.Err == api.OK {
		s.counts.Sent++
	} else {
		s.counts.Dropped++
	}
	x.outs = append(x.outs, drive.Out{Number: x.frame, Answer: a})
}

// expire ends in the model what a sweep of the one worker at a tick ends.
func (s *scene) expire(tick int) {
	s.t.Helper()
	if s.m == nil {
		return
	}
	for _, b := range s.m.Bindings() {
		if b.Seen+track.Life(b.Flow.Proto, b.Track) <= tick {
			s.m.Expire(b.Flow.Proto, b.Port, tick)
		}
	}
}

// note notes the bindings that are there, of which no two have one flow, or one port.
func (s *scene) note() {
	s.t.Helper()
	l := s.n.Bindings()
	for i, b := range l {
		if slices.ContainsFunc(l[:i], func(o model.Binding) bool {
			return o.Flow == b.Flow || o.Flow.Proto == b.Flow.Proto && o.Port == b.Port
		}) {
			s.fail("two have one flow, or one port", l)
		}
	}
	for w := range s.workers {
		if s.workers[w].does == "" {
			continue
		}
		for _, b := range l {
			s.workers[w].seen[bond{b.Flow, b.Port}] = true
		}
	}
}

// look holds all that may be asked against what is known.
func (s *scene) look() {
	s.t.Helper()
	if c := s.d.Counts(); c != s.counts || s.d.Now() != s.tick {
		s.fail("counts, tick:", c, s.counts, s.d.Now(), s.tick)
	}
	for w := range s.workers {
		x := &s.workers[w]
		if n := s.d.Waiting(w); n != len(x.waiting) {
			s.fail("so many wait:", w, n, x.waiting)
		}
		if len(s.d.Outs(w)) != len(x.outs) {
			s.fail("so many are told:", w, len(x.outs))
		}
	}
	if s.m != nil && s.workers[0].does == "" && !slices.Equal(s.n.Bindings(), s.m.Bindings()) {
		s.fail("the model has others:", s.m.Bindings())
	}
}

// play lets all do what they have to do, by picks.
func (s *scene) play(pick func(able []int) int) *scene {
	s.t.Helper()
	for l := s.able(); len(l) > 0; l = s.able() {
		s.turn(pick(l))
	}
	s.finish()
	return s
}

// finish holds what was told of all against P22.2, when nobody has anything to do.
func (s *scene) finish() {
	s.t.Helper()
	var all []int
	for w := range s.workers {
		l := s.d.Outs(w)
		for k, o := range l {
			f := s.came[o.Number]
			if k > 0 && l[k-1].Number >= o.Number || spread.Worker(s.c.Workers, f.out, f.bytes) != w || !bytes.Equal(o.Answer.Frame, s.workers[w].outs[k].Answer.Frame) {
				s.fail("worker, frames:", w, l)
			}
			all = append(all, o.Number)
		}
		if !s.d.Pick(w) {
			s.fail("it has something to do yet", w)
		}
	}
	slices.Sort(all)
	for k, number := range all {
		if k != number {
			s.fail("not each frame is answered once", all)
		}
	}
	if len(all) != len(s.came) || s.counts.Sent+s.counts.Dropped != s.counts.Came {
		s.fail("so many are answered, of so many:", len(all), len(s.came))
	}
	wantOneClaim(s.t, s.n)
}
