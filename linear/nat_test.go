package linear_test

import (
	"math"
	"math/rand"
	"slices"
	"testing"

	"fanlight/api"
	"fanlight/explore"
	"fanlight/history"
	"fanlight/linear"
	"fanlight/model"
	"fanlight/nat"
	"fanlight/plan"
)

// deed is what a worker is to do: a frame, or a sweep, at a tick.
type deed struct {
	sweep bool
	call  model.Call
}

func sends(from uint16, tick int) deed { return deed{call: sent(from, tick, 0)} }
func brings(port uint16, tick int) deed {
	return deed{call: came(port, tick)}
}
func sweeps(tick int) deed { return deed{sweep: true, call: model.Call{Tick: tick}} }

func segment(out bool, port uint16, flags, tick int) deed {
	if out {
		return deed{call: model.Call{Out: true, Frame: tcp(host, far, port, 80, flags), Tick: tick}}
	}
	return deed{call: model.Call{Frame: tcp(far, outer, 80, port, flags), Tick: tick}}
}

// actor is a worker, who has deeds to do, one behind the other.
type actor struct {
	deeds []deed
	sweep bool // it does a sweep
	entry int  // the frame that it does, or did last
	since int  // when its sweep began
	ends  int  // how many of its sweep's ends are noted
}

// recorder is workers on a translator: whatever they do is noted.
type recorder struct {
	t      *testing.T
	c      plan.Config
	n      *nat.Nat
	h      *history.History
	actors []actor
	path   []int
	told   map[api.Errno]int
	ends   int
	undone int // moments at which a frame that wasn't done held a port
}

func newRecorder(t *testing.T, c plan.Config, ahead ...[]deed) *recorder {
	t.Helper()
	n, e := nat.New(c)
	if e != api.OK {
		t.Fatalf("New of %+v: %d", c, e)
	}
	r := &recorder{t: t, c: c, n: n, h: history.New(), actors: make([]actor, c.Workers), told: map[api.Errno]int{}}
	for w, l := range ahead {
		r.act(w, l...).some(w, math.MaxInt)
	}
	return r
}

func (r *recorder) act(w int, l ...deed) *recorder {
	r.actors[w].deeds = l
	return r
}

// some lets a worker do so many steps, if it has so many to do.
func (r *recorder) some(w, steps int) *recorder {
	for ; steps > 0 && r.able(w); steps-- {
		r.turn(w)
	}
	return r
}

func (r *recorder) able(w int) bool { return r.n.Busy(w) || len(r.actors[w].deeds) > 0 }

func (r *recorder) list() []int {
	var l []int
	for w := range r.actors {
		if r.able(w) {
			l = append(l, w)
		}
	}
	return l
}

// turn lets a worker begin its next deed, or do one step.
func (r *recorder) turn(w int) {
	r.path = append(r.path, w)
	x := &r.actors[w]
	if !r.n.Busy(w) {
		r.begin(w, x)
		return
	}
	over := r.n.Do(w)
	switch {
	case x.sweep:
		for _, end := range r.n.Ended(w)[x.ends:] {
			r.h.Ended(x.since, x.deeds[0].call.Tick, end.Proto, end.Port)
			x.ends++
			r.ends++
		}
	case over:
		a, _ := r.n.Told(w)
		r.h.End(x.entry, a)
		r.told[a.Err]++
	}
	if over {
		x.deeds = x.deeds[1:]
	}
}

func (r *recorder) begin(w int, x *actor) {
	d := x.deeds[0]
	x.sweep = d.sweep
	if d.sweep {
		x.since, x.ends = max(r.h.Now(), 1), 0
		r.must(r.n.Sweep(w, d.call.Tick))
		return
	}
	x.entry = r.h.Begin(d.call)
	r.must(r.n.Begin(w, d.call.Out, d.call.Frame, d.call.Tick))
}

func (r *recorder) must(e api.Errno) {
	r.t.Helper()
	if e != api.OK {
		r.t.Fatal("it can't begin", e, r.path)
	}
}

// entries is what happened by now: a frame that isn't done has the port that it holds.
func (r *recorder) entries() []history.Entry {
	l := r.h.All()
	for w, x := range r.actors {
		if !r.n.Busy(w) || x.sweep {
			continue
		}
		port := r.n.Holds(w)
		l[x.entry].Call.Port = port
		if port != -1 {
			r.undone++
		}
	}
	return l
}

// explain wants an order of what happened by now: P19.2.
func (r *recorder) explain() {
	r.t.Helper()
	l := r.entries()
	o, ok := linear.Order(r.c, l)
	if !ok || !linear.Check(r.c, l, o) || !explains(r.c, l, o) {
		for _, x := range l {
			r.t.Logf("%+v", x)
		}
		r.t.Fatalf("order %v, %v by turns %v: bindings %+v", o, ok, r.path, r.n.Bindings())
	}
}

// play lets all go on by picks, till nobody has anything to do; what happened is looked at now and then, and at the end.
func (r *recorder) play(pick func(able []int) int, every int) {
	r.t.Helper()
	for l := r.list(); len(l) > 0; l = r.list() {
		r.turn(pick(l))
		if len(r.path)%every == 0 {
			r.explain()
		}
	}
	r.explain()
}

// scene is workers who are to do something, and what must come of it by some turns.
type scene struct {
	name  string
	build func() *recorder
	want  []api.Errno
	ends  bool
}

func scenes(t *testing.T) []scene {
	return []scene{
		{"one flow", func() *recorder {
			return newRecorder(t, config(2, 4, 4)).act(0, sends(5, 0), brings(1000, 1)).act(1, sends(5, 1), brings(1000, 0))
		}, []api.Errno{api.OK, api.ErrNone}, false},
		{"one port", func() *recorder {
			return newRecorder(t, config(2, 1, 4)).act(0, sends(5, 0), brings(1000, 0)).act(1, sends(6, 0), sends(5, 0))
		}, []api.Errno{api.OK, api.ErrNoPort, api.ErrNone}, false},
		{"an end", func() *recorder {
			return newRecorder(t, config(2, 20, 4), []deed{sends(5, 0)}).act(0, sweeps(120), sends(6, 120)).act(1, sends(5, 100), brings(1000, 110))
		}, []api.Errno{api.OK, api.ErrNone}, true},
		{"an end, and the same flow again", func() *recorder {
			return newRecorder(t, config(2, 20, 4), []deed{sends(5, 0)}).act(0, sweeps(120), sweeps(240)).act(1, sends(5, 120), sends(6, 1))
		}, []api.Errno{api.OK}, true},
		{"a connection that closes", func() *recorder {
			return newRecorder(t, config(2, 20, 4), []deed{segment(true, 5, syn, 0), segment(false, 1000, syn|ack, 0), segment(true, 5, fin, 0)}).
				act(0, segment(false, 1000, fin, 0), sweeps(300)).act(1, segment(true, 5, ack, 100), segment(true, 5, syn, 50))
		}, []api.Errno{api.OK, api.ErrNone}, true},
		{"a port that is taken again", func() *recorder {
			return newRecorder(t, config(2, 1, 4), []deed{sends(5, 0)}).act(0, sweeps(120), sweeps(120), sweeps(120), sends(6, 120)).act(1, sends(5, 7), brings(1000, 8))
		}, []api.Errno{api.OK, api.ErrNone, api.ErrNoPort}, true},
		{"no room", func() *recorder {
			ahead := []deed{sends(5, 0)}
			for from := range uint16(7) {
				ahead = append(ahead, sends(6+from, 100))
			}
			return newRecorder(t, config(2, 20, 2), ahead).act(0, sweeps(120)).act(1, sends(20, 120), brings(1000, 0))
		}, []api.Errno{api.OK, api.ErrFull, api.ErrNone}, true},
		{"three workers", func() *recorder {
			return newRecorder(t, config(3, 40, 4), []deed{sends(5, 0)}).act(0, sweeps(120)).act(1, sends(6, 0)).act(2, sends(5, 7))
		}, []api.Errno{api.OK}, true},
	}
}

// TestAllTurnsHaveAnOrder has small scenes, by all turns of two switches: of whatever a translator did there is an order, also while it is at it.
func TestAllTurnsHaveAnOrder(t *testing.T) {
	for _, x := range scenes(t) {
		told, ends, undone := map[api.Errno]int{}, 0, 0
		runs := explore.Each(func(pick func(int) int) {
			r := x.build()
			r.play(explore.Switches(2, pick), 5)
			for e, n := range r.told {
				told[e] += n
			}
			ends += r.ends
			undone += r.undone
		})
		t.Logf("%s: %d turns, told %v, %d ends, %d undone", x.name, runs, told, ends, undone)
		for _, e := range x.want {
			if told[e] == 0 {
				t.Errorf("%s: by %d turns none was told %d: %v", x.name, runs, e, told)
			}
		}
		if ends == 0 && x.ends || undone == 0 {
			t.Errorf("%s: by %d turns %d ends, %d times one that wasn't done had a port", x.name, runs, ends, undone)
		}
	}
}

// TestRandomTurnsHaveAnOrder has two to four workers, on few ports or many.
func TestRandomTurnsHaveAnOrder(t *testing.T) {
	told, ends, undone := map[api.Errno]int{}, 0, 0
	for seed := range 4000 {
		rnd := rand.New(rand.NewSource(int64(seed)))
		c := config(2+rnd.Intn(3), []int{1, 2, 3, 12, 40}[rnd.Intn(5)], 2)
		r := newRecorder(t, c)
		for left := 6 + rnd.Intn(3); left > 0; left-- {
			w := rnd.Intn(c.Workers)
			r.actors[w].deeds = append(r.actors[w].deeds, someDeed(rnd))
		}
		r.play(someTurns(rnd), 7)
		for e, n := range r.told {
			told[e] += n
		}
		ends += r.ends
		undone += r.undone
	}
	t.Logf("told %v, %d ends, %d undone", told, ends, undone)
	if told[api.OK] == 0 || told[api.ErrNone] == 0 || told[api.ErrNoPort] == 0 || ends == 0 || undone == 0 {
		t.Errorf("told %v, %d ends, %d undone", told, ends, undone)
	}
}

func someDeed(rnd *rand.Rand) deed {
	if rnd.Intn(5) == 0 {
		return sweeps(60 * rnd.Intn(8))
	}
	x := someCall(rnd)
	x.Port = 0
	return deed{call: x}
}

// someTurns is who goes on by several steps, while others stand still, some for long.
func someTurns(rnd *rand.Rand) func([]int) int {
	who, left, several := 0, 0, 1+rnd.Intn(8)
	return func(able []int) int {
		if left == 0 || !slices.Contains(able, who) {
			who, left = able[rnd.Intn(len(able))], 1+rnd.Intn(several)
			if rnd.Intn(8) == 0 {
				left = 50
			}
		}
		left--
		return who
	}
}
