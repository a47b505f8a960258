package nat_test

import (
	"math/rand"
	"testing"

	"fanlight/api"
	"fanlight/plan"
)

func TestAFlowByAllTurns(t *testing.T) {
	t.Parallel()
	roomy := func(workers int) *scene { return newScene(t, config(workers, 1+8*(workers-1), 2)) }
	single := func() *scene { return newScene(t, config(2, 1, 2)) }
	tryAll(t, "two do frames of one flow", 3, func() *scene {
		return roomy(2).act(0, sent(5, 3)).act(1, sent(5, 7))
	}, "made live by another", "unmade", "went out")
	tryAll(t, "three do", 2, func() *scene {
		return roomy(3).act(0, sent(5, 3)).act(1, sent(5, 7)).act(2, sent(5, 1))
	}, "made live by another", "unmade", "went out")
	tryAll(t, "there is one port", 3, func() *scene {
		return single().act(0, sent(5, 3)).act(1, sent(5, 7))
	}, "made live by another", "no port", "went out")
	tryAll(t, "two flows want it", 3, func() *scene {
		return single().act(0, sent(5, 3)).act(1, sent(6, 7))
	}, "no port", "went out")
	tryAll(t, "one comes to it", 3, func() *scene {
		return single().act(0, sent(5, 3)).act(1, came(1000, 7), came(1000, 8))
	}, "none", "came in")
	tryAll(t, "one is an error, and begins nothing", 3, func() *scene {
		return single().act(0, sent(5, 3)).act(1, sends(fault(gate, far, udp(far, host, 53, 5)), 4))
	}, "none", "made live by another")
}

func TestAnEndByAllTurns(t *testing.T) {
	t.Parallel()
	bound := func(ports int) *scene { return newScene(t, config(2, ports, 2), []deed{sent(5, 3)}) }
	tryAll(t, "it is seen", 3, func() *scene {
		return bound(9).act(0, sweeps(123)).act(1, sent(5, 4))
	}, "ended", "seen when it ended", "made", "went out")
	tryAll(t, "it is seen, and there is one port", 3, func() *scene {
		return bound(1).act(0, sweeps(123)).act(1, sent(5, 3))
	}, "ended", "seen when it ended", "no port", "went out")
	tryAll(t, "one comes to it", 3, func() *scene {
		return bound(1).act(0, sweeps(123)).act(1, came(1000, 200))
	}, "ended", "seen when it ended", "none", "came in")
	tryAll(t, "the maker sees it again", 2, func() *scene {
		return bound(9).act(0, sweeps(123), sent(5, 130)).act(1, sent(5, 4), sent(5, 140))
	}, "ended", "made live by another", "unmade")
	tryAll(t, "two sweep", 3, func() *scene {
		return bound(1).act(0, sweeps(123), sweeps(123)).act(1, sweeps(123), sweeps(123))
	}, "ended", "reused")
	tryAll(t, "another one brings on the epoch", 2, func() *scene {
		return newScene(t, config(3, 1, 2), []deed{sent(5, 3)}).act(0, sweeps(123), sent(6, 130)).act(1, sent(5, 3)).act(2, sweeps(0))
	}, "ended", "reused", "made", "no port")
}

func TestAPortThatIsUsedAgainByAllTurns(t *testing.T) {
	t.Parallel()
	bound := func() *scene { return newScene(t, config(2, 1, 2), []deed{sent(5, 3)}) }
	again := []deed{sweeps(123), sweeps(123), sent(6, 130)}
	tryAll(t, "one comes to it", 3, func() *scene {
		return bound().act(0, again...).act(1, came(1000, 100), came(1000, 140))
	}, "seen when it ended", "reused", "made", "no port", "none", "came in")
	tryAll(t, "its flow goes out by it", 3, func() *scene {
		return bound().act(0, again...).act(1, sent(5, 2))
	}, "seen when it ended", "reused", "made", "no port", "went out")
	tryAll(t, "both flows do", 2, func() *scene {
		return bound().act(0, again...).act(1, sent(6, 4), sent(5, 5))
	}, "reused", "made", "no port", "made live by another")
	tryAll(t, "an error comes to it", 2, func() *scene {
		return bound().act(0, again...).act(1, brings(fault(farther, outer, udp(outer, far, 1000, 53)), 9))
	}, "seen when it ended", "reused", "none", "came in")
}

func TestAConnectionByAllTurns(t *testing.T) {
	t.Parallel()
	open := func() *scene { return newScene(t, config(2, 1, 2), []deed{segment(true, 5, syn, 3)}) }
	tryAll(t, "both ends are said", 3, func() *scene {
		return open().act(0, segment(true, 5, fin|ack, 9)).act(1, segment(false, 1000, fin|ack, 8), segment(true, 5, syn, 7))
	}, "went out", "came in")
	tryAll(t, "it opens while it is swept", 3, func() *scene {
		return open().act(0, sweeps(243)).act(1, segment(false, 1000, syn|ack, 3))
	}, "ended", "came in", "none")
	tryAll(t, "it opens, and closes", 2, func() *scene {
		return open().act(0, sweeps(250), sweeps(7000), sweeps(7000)).act(1, segment(false, 1000, syn|ack, 20), segment(false, 1000, rst, 19))
	}, "ended", "came in", "none")
}

// crowded has all eight slots of two buckets full but for some.
func crowded(t *testing.T, but int) *scene {
	t.Helper()
	var ahead []deed
	for k := range 8 - but {
		ahead = append(ahead, sent(uint16(20+k), k))
	}
	return newScene(t, config(2, 10, 2), ahead)
}

func TestNoRoomByAllTurns(t *testing.T) {
	t.Parallel()
	tryAll(t, "one comes to its end", 2, func() *scene {
		return crowded(t, 0).act(0, sweeps(120)).act(1, sent(5, 60))
	}, "full", "unmade", "ended", "went out")
	tryAll(t, "two want the last room", 2, func() *scene {
		return crowded(t, 1).act(0, sent(5, 60)).act(1, sent(6, 61))
	}, "full", "unmade", "made", "went out")
	tryAll(t, "of one flow", 2, func() *scene {
		return crowded(t, 1).act(0, sent(5, 60)).act(1, sent(5, 61))
	}, "unmade", "made", "made live by another")
}

// someDeeds is of few flows and ports, at ticks that rise, more or less.
func someDeeds(rnd *rand.Rand, c plan.Config, n, tick int) []deed {
	l := make([]deed, n)
	for k := range l {
		tick += rnd.Intn(60)
		if rnd.Intn(5) == 0 {
			tick += 200
		}
		out := rnd.Intn(3) > 0
		switch at := max(0, tick-rnd.Intn(50)); rnd.Intn(4) {
		case 0:
			l[k] = sweeps(at)
		default:
			l[k] = deed{out: out, frame: someFrame(rnd, out, c), tick: at}
		}
	}
	return l
}

// bursts is of a flow or two that many bring at once, whose life is over again and again.
func bursts(rnd *rand.Rand, n int) []deed {
	l := make([]deed, n)
	for k := range l {
		tick := 130 * (k / 3)
		switch rnd.Intn(5) {
		case 0:
			l[k] = sweeps(tick)
		case 1:
			l[k] = came(1000+rnd.Intn(2), tick)
		default:
			l[k] = sent(choose[uint16](rnd, 5, 5, 6), tick)
		}
	}
	return l
}

func TestByRandomTurns(t *testing.T) {
	t.Parallel()
	rnd := rand.New(rand.NewSource(16))
	events := map[string]int{}
	for range 1500 {
		c := config(2+rnd.Intn(3), 1+rnd.Intn(20), 2)
		if rnd.Intn(3) == 0 {
			c.Hi = 1000 + rnd.Intn(3)
		}
		s := newScene(t, c)
		if rnd.Intn(4) == 0 {
			s = crowded(t, rnd.Intn(3))
		}
		burst := rnd.Intn(3) == 0
		for w := range s.actors {
			n := 40 / len(s.actors)
			s.act(w, someDeeds(rnd, s.c, n, 0)...)
			if burst {
				s.act(w, bursts(rnd, n)...)
			}
		}
		s.play(some(rnd))
		for e, n := range s.events {
			events[e] += n
		}
	}
	for _, e := range []string{"filled", "made", "unmade", "made live by another", "ended", "seen when it ended", "reused", "no port", "full", "none", "went out", "came in"} {
		if events[e] < 20 {
			t.Errorf("hardly ever: %q, %v", e, events)
		}
	}
}

// TestWhoStandsStill: at whatever step one stands still, another one is done with all that it has to do, and what it was told is in order.
func TestWhoStandsStill(t *testing.T) {
	t.Parallel()
	bound := func() *scene { return newScene(t, config(2, 9, 2), []deed{sent(5, 3), sent(6, 100)}) }
	other := []deed{sent(5, 4), came(1000, 5), came(1001, 6), sent(6, 7), sent(7, 8), sweeps(123), sweeps(240), sent(5, 300)}
	for _, still := range []deed{sent(5, 9), sent(6, 9), sent(7, 9), came(1000, 9), came(1001, 9), sweeps(123), sweeps(240)} {
		for steps := 0; ; steps++ {
			s := bound().act(0, still).some(0, steps)
			over := !s.able(0)
			s.act(1, other...).all(1)
			s.explain()
			s.play(func(able []int) int { return able[0] })
			if over {
				break
			}
		}
	}
}

// TestManyStandStill has each worker but one stand still somewhere.
func TestManyStandStill(t *testing.T) {
	t.Parallel()
	rnd := rand.New(rand.NewSource(17))
	for range 300 {
		c := config(4, 1+rnd.Intn(40), 4)
		s := newScene(t, c)
		for w := range c.Workers - 1 {
			s.act(w, someDeeds(rnd, c, 8, 0)...).some(w, rnd.Intn(150)).act(w)
		}
		last := c.Workers - 1
		s.act(last, someDeeds(rnd, c, 20, 300)...).all(last)
		s.explain()
		s.play(some(rnd))
	}
}

// TestPortsThatComeBetween: the pool has a port, till the flow that one brings has a binding by another one; when that is over ports have come back. So there is a port, or the binding, at each moment, wherever these things come between the steps of a frame.
func TestPortsThatComeBetween(t *testing.T) {
	t.Parallel()
	var many []deed
	for k := range 24 {
		many = append(many, sent(uint16(100+k), 0))
	}
	told := map[api.Errno]int{}
	for first := range 12 {
		for second := range 12 {
			s := newScene(t, config(4, 33, 32), append(many, sweeps(120)), nil, []deed{sent(20, 120)})
			s.act(1, sent(6, 125)).some(1, 1+first)
			s.act(2, sent(6, 130)).all(2)
			s.act(3, sent(7, 130)).all(3)
			s.some(1, second)
			s.act(0, sweeps(120)).all(0)
			s.act(2, sweeps(250)).all(2)
			s.play(func(able []int) int { return able[0] })
			a, _ := s.n.Told(1)
			told[a.Err]++
		}
	}
	if told[api.OK] != 144 {
		t.Errorf("%v", told)
	}
}

// TestOnePortByWhateverTurns is the chapter's example.
func TestOnePortByWhateverTurns(t *testing.T) {
	t.Parallel()
	rnd := rand.New(rand.NewSource(18))
	for range 500 {
		s := newScene(t, config(2, 40, 4)).act(0, sent(5, 1)).act(1, sent(5, 2))
		s.play(some(rnd))
		a, _ := s.n.Told(0)
		b, _ := s.n.Told(1)
		if a.Err != api.OK || b.Err != api.OK || string(a.Frame) != string(b.Frame) {
			t.Fatalf("%+v, %+v", a, b)
		}
	}
}
