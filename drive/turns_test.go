package drive_test

import (
	"math/rand"
	"slices"
	"testing"

	"fanlight/drive"
	"fanlight/explore"
)

// some is who does the next step: one goes on by several while others stand still.
func some(rnd *rand.Rand) func([]int) int {
	who, left, several := 0, 0, 1+rnd.Intn(6)
	return func(able []int) int {
		if left == 0 || !slices.Contains(able, who) {
			who, left = able[rnd.Intn(len(able))], 1+rnd.Intn(several)
			if rnd.Intn(8) == 0 {
				left = 60
			}
		}
		left--
		return who
	}
}

// something is done to a scene ahead of all being at rest: frames come, time goes by, some do some steps.
func (s *scene) something(rnd *rand.Rand) {
	s.t.Helper()
	switch rnd.Intn(6) {
	case 0:
		s.time(choose(rnd, 0, 1, 30, 60, 120, 240))
	case 1, 2, 3:
		out := rnd.Intn(3) > 0
		s.put(out, someFrame(rnd, out, s.c))
	default:
		pick := some(rnd)
		for range rnd.Intn(60) {
			if l := s.able(); len(l) > 0 {
				s.turn(pick(l))
			}
		}
		// One that has nothing to do may be picked, too.
		s.turn(rnd.Intn(s.c.Workers))
	}
}

// TestOneWorker holds a Drive of one worker against the model, frame by frame.
func TestOneWorker(t *testing.T) {
	t.Parallel()
	rnd := rand.New(rand.NewSource(22))
	var sum drive.Counts
	for range 300 {
		s := newScene(t, config(1, 1+rnd.Intn(12), 2, 1+rnd.Intn(6)))
		for range 60 {
			s.something(rnd)
		}
		s.play(some(rnd))
		sum = plus(sum, s.counts)
	}
	wantAllKinds(t, sum)
}

// TestByRandomTurns has two to five workers.
func TestByRandomTurns(t *testing.T) {
	t.Parallel()
	rnd := rand.New(rand.NewSource(221))
	var sum drive.Counts
	for range 300 {
		s := newScene(t, config(2+rnd.Intn(4), 1+rnd.Intn(20), 2<<rnd.Intn(3), 1+rnd.Intn(6)))
		for range 60 {
			s.something(rnd)
		}
		s.play(some(rnd))
		sum = plus(sum, s.counts)
	}
	wantAllKinds(t, sum)
}

func plus(a, b drive.Counts) drive.Counts {
	return drive.Counts{Came: a.Came + b.Came, Full: a.Full + b.Full, Sent: a.Sent + b.Sent, Dropped: a.Dropped + b.Dropped, Ended: a.Ended + b.Ended}
}

func wantAllKinds(t *testing.T, c drive.Counts) {
	t.Helper()
	t.Logf("%+v", c)
	if c.Full < 100 || c.Sent < 1000 || c.Dropped < 1000 || c.Ended < 100 {
		t.Errorf("hardly ever: %+v", c)
	}
}

// TestByAllTurns has two workers do small things by all turns of some switches.
func TestByAllTurns(t *testing.T) {
	t.Parallel()
	sent := func(w, from int) []byte { return udp(host, farOf(2, w, 0), uint16(from), 53) }
	for _, x := range []struct {
		name     string
		switches int
		build    func() *scene
	}{
		{"a flow, by two", 3, func() *scene {
			return newScene(t, config(2, 9, 2, 2)).put(true, sent(0, 5)).put(true, sent(1, 5))
		}},
		{"two flows, and one port", 3, func() *scene {
			return newScene(t, config(2, 1, 2, 2)).put(true, sent(0, 5)).put(true, sent(1, 6))
		}},
		{"a flow, by two, twice", 2, func() *scene {
			return newScene(t, config(2, 9, 2, 2)).put(true, sent(0, 5)).put(true, sent(1, 5)).put(true, sent(0, 5)).put(true, sent(1, 5))
		}},
		{"one is swept, and seen", 2, func() *scene {
			s := newScene(t, config(2, 9, 2, 2)).put(true, sent(0, 5)).play(func(able []int) int { return able[0] })
			return s.time(119).put(true, sent(1, 5)).time(1).put(true, sent(0, 6))
		}},
	} {
		runs := explore.Each(func(pick func(int) int) { x.build().play(explore.Switches(x.switches, pick)) })
		t.Logf("%s: %d turns", x.name, runs)
		if runs < 100 {
			t.Errorf("%s: only %d turns", x.name, runs)
		}
	}
}
