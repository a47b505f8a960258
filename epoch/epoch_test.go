package epoch_test

import (
	"math"
	"slices"
	"testing"

	"fanlight/api"
	"fanlight/epoch"
)

func mustNew(t *testing.T, workers int) *epoch.Epochs {
	t.Helper()
	e, err := epoch.New(workers)
	if err != api.OK || e == nil {
		t.Fatalf("New(%d): %v, error %d", workers, e, err)
	}
	return e
}

// finish does s, alone: how many Dos it took.
func finish(t *testing.T, e *epoch.Epochs, s *epoch.Step) int {
	t.Helper()
	for n := 1; n <= 100; n++ {
		if e.Do(s) {
			return n
		}
	}
	t.Fatal("it has no end")
	return 0
}

func advance(t *testing.T, e *epoch.Epochs) bool {
	t.Helper()
	s := e.Advance()
	finish(t, e, s)
	return s.Won()
}

func wantDo(t *testing.T, what string, e *epoch.Epochs, s *epoch.Step, done bool) {
	t.Helper()
	if e.Do(s) != done {
		t.Errorf("%s: done isn't %v", what, done)
	}
}

func wantCopy(t *testing.T, what string, e *epoch.Epochs, want ...uint64) {
	t.Helper()
	if l := e.Copy(); !slices.Equal(l, want) {
		t.Errorf("%s: %v, not %v", what, l, want)
	}
}

func wantThings(t *testing.T, what string, got []uint64, want ...uint64) {
	t.Helper()
	if !slices.Equal(got, want) {
		t.Errorf("%s: %v, not %v", what, got, want)
	}
}

var noWorkers = []int{-1, -2, -1 << 32, 1 << 32, math.MinInt, math.MaxInt}

func TestNew(t *testing.T) {
	for _, n := range append([]int{0, 65, 66, 65536}, noWorkers...) {
		if e, err := epoch.New(n); err != api.ErrArg || e != nil {
			t.Errorf("New(%d): %v, error %d", n, e, err)
		}
	}
	for _, n := range []int{1, 2, 63, 64} {
		e := mustNew(t, n)
		wantCopy(t, "New", e, make([]uint64, n+1)...)
		if e.Now() != 0 {
			t.Error(e.Now())
		}
		for w := range n {
			if e.Pinned(w) != -1 || e.Waiting(w) != 0 || len(e.Given(w)) != 0 || len(e.Take(w)) != 0 {
				t.Errorf("worker %d of %d has something", w, n)
			}
		}
	}
}

func TestExample(t *testing.T) {
	e := mustNew(t, 1)
	if err := e.Give(0, 7); err != api.OK {
		t.Error(err)
	}
	if !advance(t, e) || !advance(t, e) {
		t.Error("it lost")
	}
	wantThings(t, "Take", e.Take(0), 7)
}

func TestPinsSteps(t *testing.T) {
	e := mustNew(t, 3)
	s := e.Pin(1)
	wantCopy(t, "it began", e, 0, 0, 0, 0)
	wantDo(t, "the epoch is read", e, s, false)
	wantCopy(t, "the epoch is read", e, 0, 0, 0, 0)
	wantDo(t, "it is pinned", e, s, false)
	wantCopy(t, "it is pinned", e, 0, 0, 1, 0)
	wantDo(t, "the epoch is read again", e, s, true)
	wantCopy(t, "it is done", e, 0, 0, 1, 0)
	if e.Pinned(0) != -1 || e.Pinned(1) != 0 || e.Pinned(2) != -1 || s.Won() {
		t.Error(e.Copy(), s.Won())
	}
}

func TestPinGoesRoundAgain(t *testing.T) {
	e := mustNew(t, 2)
	s := e.Pin(0)
	wantDo(t, "the epoch is read", e, s, false)
	advance(t, e)
	wantDo(t, "it is pinned", e, s, false)
	wantCopy(t, "it is pinned at what was read", e, 1, 1, 0)
	wantDo(t, "another epoch", e, s, false)
	wantCopy(t, "another epoch", e, 1, 1, 0)
	wantDo(t, "the epoch is read, the second time", e, s, false)
	wantCopy(t, "the epoch is read, the second time", e, 1, 1, 0)
	wantDo(t, "it is pinned, the second time", e, s, false)
	wantCopy(t, "it is pinned, the second time", e, 1, 2, 0)
	if !advance(t, e) {
		t.Error("who is pinned at the epoch that is now stops nobody")
	}
	wantDo(t, "another one again", e, s, false)
	wantDo(t, "the epoch is read, the third time", e, s, false)
	wantDo(t, "it is pinned, the third time", e, s, false)
	wantCopy(t, "it is pinned, the third time", e, 2, 3, 0)
	wantDo(t, "it is the same", e, s, true)
}

func TestPinReadsItsEpochAnew(t *testing.T) {
	e := mustNew(t, 1)
	s := e.Pin(0)
	wantDo(t, "the epoch is read", e, s, false)
	advance(t, e)
	wantDo(t, "it is pinned", e, s, false)
	wantDo(t, "another epoch", e, s, false)
	e.Unpin(0)
	advance(t, e)
	wantDo(t, "the epoch is read, the second time", e, s, false)
	wantDo(t, "it is pinned, the second time", e, s, false)
	wantCopy(t, "it is pinned, the second time", e, 2, 3)
	wantDo(t, "it is the same", e, s, true)
}

func TestUnpin(t *testing.T) {
	e := mustNew(t, 2)
	finish(t, e, e.Pin(0))
	finish(t, e, e.Pin(1))
	e.Unpin(0)
	wantCopy(t, "one of two", e, 0, 0, 1)
	e.Unpin(0)
	wantCopy(t, "again", e, 0, 0, 1)
	for _, w := range append([]int{2, 3}, noWorkers...) {
		e.Unpin(w)
	}
	wantCopy(t, "of nobody", e, 0, 0, 1)
	advance(t, e)
	for _, w := range append([]int{2, 3}, noWorkers...) {
		e.Unpin(w)
	}
	wantCopy(t, "of nobody, at epoch 1", e, 1, 0, 1)
	e.Unpin(1)
	wantCopy(t, "of both", e, 1, 0, 0)
}

func TestAdvancesSteps(t *testing.T) {
	for _, workers := range []int{1, 2, 5, 64} {
		e := mustNew(t, workers)
		none := make([]uint64, workers)
		s := e.Advance()
		for range workers + 1 {
			wantDo(t, "it looks", e, s, false)
			wantCopy(t, "it looks", e, append([]uint64{0}, none...)...)
			if s.Won() {
				t.Error("it won ahead of its end")
			}
		}
		wantDo(t, "its Cas", e, s, true)
		wantCopy(t, "its Cas", e, append([]uint64{1}, none...)...)
		if !s.Won() || e.Now() != 1 {
			t.Error("it lost", e.Now())
		}
	}
}

func TestAdvanceStopsAtWhoIsPinnedAtAnotherEpoch(t *testing.T) {
	const workers = 5
	for w := range workers {
		e := mustNew(t, workers)
		finish(t, e, e.Pin(w))
		if !advance(t, e) {
			t.Error("who is pinned at this epoch stops nobody")
		}
		s := e.Advance()
		if n := finish(t, e, s); n != w+2 || s.Won() || e.Now() != 1 {
			t.Errorf("worker %d: %d Dos, epoch %d, won %v", w, n, e.Now(), s.Won())
		}
		e.Unpin(w)
		if !advance(t, e) || e.Now() != 2 {
			t.Error("nobody is pinned any more", e.Now())
		}
	}
}

// TestAdvanceLooksStepByStep: whoever is looked at already may be pinned behind that.
func TestAdvanceLooksStepByStep(t *testing.T) {
	e := mustNew(t, 2)
	finish(t, e, e.Pin(1))
	advance(t, e)
	s := e.Advance()
	wantDo(t, "the epoch", e, s, false)
	wantDo(t, "worker 0", e, s, false)
	e.Unpin(1)
	finish(t, e, e.Pin(0))
	wantDo(t, "worker 1", e, s, false)
	wantDo(t, "its Cas", e, s, true)
	if !s.Won() {
		t.Error("it lost")
	}
	wantCopy(t, "it won", e, 2, 2, 0)
}

func TestOneOfTwoAdvancesWins(t *testing.T) {
	e := mustNew(t, 1)
	a, b := e.Advance(), e.Advance()
	for range 2 {
		wantDo(t, "a", e, a, false)
		wantDo(t, "b", e, b, false)
	}
	wantDo(t, "a", e, a, true)
	wantDo(t, "b", e, b, true)
	if !a.Won() || b.Won() || e.Now() != 1 {
		t.Error(a.Won(), b.Won(), e.Now())
	}
}

func TestDoOfWhatIsDone(t *testing.T) {
	e := mustNew(t, 2)
	p, a := e.Pin(0), e.Advance()
	finish(t, e, p)
	finish(t, e, a)
	e.Unpin(0)
	for range 10 {
		wantDo(t, "a Pin", e, p, true)
		wantDo(t, "an Advance", e, a, true)
	}
	wantCopy(t, "nothing was done", e, 1, 0, 0)
	finish(t, e, e.Pin(1))
	advance(t, e)
	lost := e.Advance()
	finish(t, e, lost)
	e.Unpin(1)
	wantDo(t, "one that lost", e, lost, true)
	wantDo(t, "one that lost", e, lost, true)
	if lost.Won() || !a.Won() || p.Won() || e.Now() != 2 {
		t.Error(lost.Won(), a.Won(), p.Won(), e.Now())
	}
}

func TestTakeTellsWhatIsTwoBehind(t *testing.T) {
	e := mustNew(t, 2)
	for i := range 4 {
		e.Give(0, uint64(10*i))
		e.Give(0, uint64(10*i+1))
		e.Give(1, 99)
		if i < 3 {
			advance(t, e)
		}
	}
	if e.Waiting(0) != 8 || e.Waiting(1) != 4 {
		t.Error(e.Waiting(0), e.Waiting(1))
	}
	wantThings(t, "Given", e.Given(0), 0, 1, 10, 11, 20, 21, 30, 31)
	wantThings(t, "Take", e.Take(0), 0, 1, 10, 11)
	wantThings(t, "Take again", e.Take(0))
	wantThings(t, "Given", e.Given(0), 20, 21, 30, 31)
	if e.Waiting(0) != 4 || e.Waiting(1) != 4 {
		t.Error(e.Waiting(0), e.Waiting(1))
	}
	advance(t, e)
	e.Give(0, 40)
	wantThings(t, "Take", e.Take(0), 20, 21)
	wantThings(t, "Given", e.Given(0), 30, 31, 40)
	advance(t, e)
	wantThings(t, "Take", e.Take(0), 30, 31)
	advance(t, e)
	wantThings(t, "Take", e.Take(0), 40)
	wantThings(t, "worker 1", e.Take(1), 99, 99, 99, 99)
	if e.Waiting(0) != 0 || e.Waiting(1) != 0 {
		t.Error(e.Waiting(0), e.Waiting(1))
	}
}

// TestWaitingCountsWhatMayBeTaken: it is left till Take tells it.
func TestWaitingCountsWhatMayBeTaken(t *testing.T) {
	e := mustNew(t, 1)
	e.Give(0, math.MaxUint64)
	e.Give(0, 0)
	for range 3 {
		advance(t, e)
	}
	if e.Waiting(0) != 2 {
		t.Error(e.Waiting(0))
	}
	wantThings(t, "Given", e.Given(0), math.MaxUint64, 0)
	wantThings(t, "Take", e.Take(0), math.MaxUint64, 0)
	if e.Waiting(0) != 0 || len(e.Given(0)) != 0 {
		t.Error(e.Given(0))
	}
}

// TestOneThingTwice: things are numbers, and one may be given up more than once.
func TestOneThingTwice(t *testing.T) {
	e := mustNew(t, 1)
	e.Give(0, 5)
	e.Give(0, 5)
	advance(t, e)
	e.Give(0, 5)
	advance(t, e)
	wantThings(t, "Take", e.Take(0), 5, 5)
	wantThings(t, "Given", e.Given(0), 5)
}

// TestWhoIsPinnedMayTake: its own pin holds back what it gives up itself.
func TestWhoIsPinnedMayTake(t *testing.T) {
	e := mustNew(t, 1)
	finish(t, e, e.Pin(0))
	e.Give(0, 5)
	advance(t, e)
	advance(t, e)
	wantThings(t, "Take", e.Take(0))
	finish(t, e, e.Pin(0))
	if e.Pinned(0) != 1 || !advance(t, e) {
		t.Error(e.Copy())
	}
	wantThings(t, "Take", e.Take(0), 5)
}

func TestWorkersThatThereAreNot(t *testing.T) {
	e := mustNew(t, 3)
	for range 3 {
		advance(t, e)
	}
	finish(t, e, e.Pin(2))
	e.Give(2, 5)
	for _, w := range append([]int{3, 4, 64}, noWorkers...) {
		if e.Pinned(w) != -1 || e.Give(w, 7) != api.ErrArg || e.Waiting(w) != 0 || len(e.Given(w)) != 0 || len(e.Take(w)) != 0 {
			t.Errorf("there is a worker %d", w)
		}
		s := e.Pin(w)
		if !e.Do(s) || !e.Do(s) || s.Won() {
			t.Errorf("worker %d is pinned", w)
		}
		e.Unpin(w)
	}
	wantCopy(t, "nobody", e, 3, 0, 0, 4)
	wantThings(t, "Given", e.Given(2), 5)
}

func TestNil(t *testing.T) {
	var e *epoch.Epochs
	for _, w := range append([]int{0, 1}, noWorkers...) {
		if e.Pinned(w) != -1 || e.Give(w, 7) != api.ErrArg || e.Waiting(w) != 0 || len(e.Given(w)) != 0 || len(e.Take(w)) != 0 || e.Pin(w) != nil {
			t.Errorf("nil has a worker %d", w)
		}
		e.Unpin(w)
	}
	if e.Now() != 0 || len(e.Copy()) != 0 || e.Advance() != nil || !e.Do(nil) {
		t.Error("nil does something")
	}
	there := mustNew(t, 1)
	s := there.Advance()
	for range 10 {
		wantDo(t, "a Step of nobody", e, s, true)
		wantDo(t, "no Step", there, nil, true)
	}
	wantCopy(t, "nothing was done", there, 0, 0)
	if n := finish(t, there, s); n != 3 || !s.Won() {
		t.Error(n, s.Won())
	}
	var none *epoch.Step
	if none.Won() {
		t.Error("nil won")
	}
}

// TestWhatNobodyMade: an Epochs and a Step that are noughts end like others.
func TestWhatNobodyMade(t *testing.T) {
	e := mustNew(t, 1)
	var s epoch.Step
	wantDo(t, "a Step", e, &s, true)
	wantCopy(t, "a Step", e, 0, 0)
	var empty epoch.Epochs
	a := empty.Advance()
	if finish(t, &empty, a); a.Won() || empty.Now() != 0 || empty.Pinned(0) != -1 || empty.Pin(0) != nil || empty.Give(0, 1) != api.ErrArg {
		t.Error("an Epochs without cells has some")
	}
}

// TestStepsKeepToTheirOwn: a Step that began of one Epochs does nothing to another one.
func TestStepsKeepToTheirOwn(t *testing.T) {
	e, other := mustNew(t, 2), mustNew(t, 3)
	p, a := other.Pin(2), other.Advance()
	finish(t, e, p)
	finish(t, e, a)
	wantCopy(t, "who did them", e, 0, 0, 0)
	wantCopy(t, "whose they are", other, 1, 0, 0, 1)
}

func TestAnswersAreNewMemory(t *testing.T) {
	e := mustNew(t, 1)
	for i := range uint64(6) {
		e.Give(0, i)
	}
	g, c := e.Given(0), e.Copy()
	g[0], c[0], c[1] = 9, 9, 9
	_ = append(g[:2], 9, 9)
	wantThings(t, "Given", e.Given(0), 0, 1, 2, 3, 4, 5)
	wantCopy(t, "Copy", e, 0, 0)
	advance(t, e)
	e.Give(0, 6)
	e.Give(0, 7)
	advance(t, e)
	l := e.Take(0)
	for i := range l {
		l[i] = 99
	}
	_ = append(l, 99, 99)
	wantThings(t, "Given behind Take", e.Given(0), 6, 7)
	e.Give(0, 8)
	wantThings(t, "what was told", l, 99, 99, 99, 99, 99, 99)
	wantThings(t, "Given", e.Given(0), 6, 7, 8)
}
