package pool_test

import (
	"math"
	"slices"
	"testing"

	"fanlight/api"
	"fanlight/pool"
)

const change = 1 << 32

func mustNew(t *testing.T, n int) *pool.Pool {
	t.Helper()
	p, e := pool.New(n)
	if e != api.OK || p == nil {
		t.Fatalf("New(%d): %v, error %d", n, p, e)
	}
	return p
}

// finish does s, alone: how many Dos it took.
func finish(t *testing.T, p *pool.Pool, s *pool.Step) int {
	t.Helper()
	for n := 1; n <= 100; n++ {
		if p.Do(s) {
			return n
		}
	}
	t.Fatal("it has no end")
	return 0
}

// take is what a Take gets, alone.
func take(t *testing.T, p *pool.Pool, from, most int) []int {
	t.Helper()
	s := p.Take(from, most)
	finish(t, p, s)
	return s.Got()
}

// empty takes all numbers.
func empty(t *testing.T, p *pool.Pool) {
	t.Helper()
	for range 32 {
		take(t, p, 0, 32)
	}
	if len(p.Free()) != 0 {
		t.Fatal("some are free yet:", p.Free())
	}
}

func back(t *testing.T, p *pool.Pool, l ...int) {
	t.Helper()
	finish(t, p, p.Back(l))
}

func from(first, last int) []int {
	var l []int
	for n := first; n <= last; n++ {
		l = append(l, n)
	}
	return l
}

func wantDo(t *testing.T, what string, p *pool.Pool, s *pool.Step, done bool) {
	t.Helper()
	if p.Do(s) != done {
		t.Errorf("%s: done isn't %v", what, done)
	}
}

func wantInts(t *testing.T, what string, got []int, want ...int) {
	t.Helper()
	if !slices.Equal(got, want) {
		t.Errorf("%s: %v, not %v", what, got, want)
	}
}

func wantWords(t *testing.T, what string, p *pool.Pool, want ...uint64) {
	t.Helper()
	if l := p.Copy(); !slices.Equal(l, want) {
		t.Errorf("%s: words %x, not %x", what, l, want)
	}
}

func TestNew(t *testing.T) {
	for _, n := range []int{0, -1, -32, 1025, 1056, 65536, 1 << 32, 1<<32 + 1, -1 << 32, math.MinInt, math.MaxInt} {
		if p, e := pool.New(n); e != api.ErrArg || p != nil {
			t.Errorf("New(%d): %v, error %d", n, p, e)
		}
	}
	for _, x := range []struct {
		n, words int
		last     uint64
	}{
		{1, 1, 0xFFFFFFFE}, {2, 1, 0xFFFFFFFC}, {31, 1, 0x80000000}, {32, 1, 0},
		{33, 2, 0xFFFFFFFE}, {40, 2, 0xFFFFFF00}, {63, 2, 0x80000000}, {64, 2, 0},
		{1000, 32, 0xFFFFFF00}, {1023, 32, 0x80000000}, {1024, 32, 0},
	} {
		p := mustNew(t, x.n)
		want := make([]uint64, x.words)
		want[x.words-1] = x.last
		wantWords(t, "New", p, want...)
		wantInts(t, "Free", p.Free(), from(0, x.n-1)...)
	}
}

func TestExample(t *testing.T) {
	p := mustNew(t, 40)
	s := p.Take(0, 2)
	wantDo(t, "it reads", p, s, false)
	wantDo(t, "its Cas", p, s, true)
	wantInts(t, "Take(0, 2)", s.Got(), 0, 1)
	wantInts(t, "Take(1, 8)", take(t, p, 1, 8), from(32, 39)...)
	b := p.Back([]int{1})
	wantDo(t, "it reads", p, b, false)
	wantDo(t, "its Cas", p, b, true)
	wantWords(t, "Back", p, 1<<33+1, change+0xFFFFFFFF)
}

func TestTakesSteps(t *testing.T) {
	p := mustNew(t, 70)
	s := p.Take(1, 3)
	wantWords(t, "it began", p, 0, 0, 0xFFFFFFC0)
	if s.Word() != -1 || s.None() || len(s.Got()) != 0 {
		t.Error("it has something ahead of its steps")
	}
	wantDo(t, "it reads", p, s, false)
	wantWords(t, "it reads", p, 0, 0, 0xFFFFFFC0)
	if s.Word() != -1 || s.None() || len(s.Got()) != 0 {
		t.Error("it has something ahead of its Cas")
	}
	wantDo(t, "its Cas", p, s, true)
	wantWords(t, "its Cas", p, 0, change+7, 0xFFFFFFC0)
	wantInts(t, "Got", s.Got(), 32, 33, 34)
	if s.Word() != 1 || s.None() || s.Same() || len(s.Left()) != 0 {
		t.Error(s.Word(), s.None(), s.Same(), s.Left())
	}
	wantInts(t, "Free", p.Free(), append(from(0, 31), from(35, 69)...)...)
	for range 3 {
		wantDo(t, "it is done", p, s, true)
	}
	wantWords(t, "it is done", p, 0, change+7, 0xFFFFFFC0)
}

func TestTakeGetsTheLowestFree(t *testing.T) {
	p := mustNew(t, 32)
	take(t, p, 0, 32)
	back(t, p, 31, 3, 17, 4, 0)
	wantInts(t, "two of five", take(t, p, 0, 2), 0, 3)
	wantWords(t, "two of five", p, 3*change+0xFFFFFFFF-1<<31-1<<17-1<<4)
	wantInts(t, "more than there are", take(t, p, 0, 32), 4, 17, 31)
	wantWords(t, "more than there are", p, 4*change+0xFFFFFFFF)
}

func TestTakesMost(t *testing.T) {
	for _, x := range []struct{ most, got int }{
		{math.MinInt, 1}, {-1 << 32, 1}, {-1, 1}, {0, 1}, {1, 1}, {2, 2}, {8, 8}, {31, 31}, {32, 32}, {33, 32}, {1 << 32, 32}, {1<<32 + 1, 32}, {math.MaxInt, 32},
	} {
		wantInts(t, "of 64", take(t, mustNew(t, 64), 1, x.most), from(32, 31+x.got)...)
		wantInts(t, "of 5", take(t, mustNew(t, 5), 0, x.most), from(0, min(x.got, 5)-1)...)
	}
}

func TestTakesFrom(t *testing.T) {
	for _, x := range []struct{ n, from, word int }{
		{96, 0, 0}, {96, 1, 1}, {96, 2, 2}, {96, 3, 0}, {96, 7, 1},
		{96, -1, 0}, {96, -2, 2}, {96, -3, 1}, {96, math.MinInt, 2}, {96, math.MaxInt, 1},
		{32, 5, 0}, {32, -5, 0}, {64, -1, 1}, {64, math.MinInt, 0}, {1024, 33, 1}, {1024, -1, 31},
	} {
		p := mustNew(t, x.n)
		s := p.Take(x.from, 1)
		if n := finish(t, p, s); n != 2 || s.Word() != x.word {
			t.Errorf("Take(%d, 1) of %d: word %d behind %d Dos", x.from, x.n, s.Word(), n)
		}
		wantInts(t, "Got", s.Got(), 32*x.word)
	}
}

func TestTakeGoesOnBehindFullWords(t *testing.T) {
	for from := range 4 {
		for free := range 4 {
			p := mustNew(t, 128)
			empty(t, p)
			back(t, p, 32*free+9, 32*free+3)
			s := p.Take(from, 8)
			if n, want := finish(t, p, s), (free-from+4)%4+2; n != want || s.Word() != free || s.None() {
				t.Errorf("from %d to %d: %d Dos, word %d", from, free, n, s.Word())
			}
			wantInts(t, "Got", s.Got(), 32*free+3, 32*free+9)
		}
	}
}

func TestTakeFindsNone(t *testing.T) {
	for _, n := range []int{1, 32, 33, 100, 1024} {
		p := mustNew(t, n)
		empty(t, p)
		full := p.Copy()
		for _, from := range []int{0, 1, -1} {
			s := p.Take(from, 5)
			for range len(full) - 1 {
				wantDo(t, "it looks", p, s, false)
				if s.None() {
					t.Error("it found none ahead of its end")
				}
			}
			wantDo(t, "the last word", p, s, true)
			if !s.None() || s.Word() != -1 || len(s.Got()) != 0 {
				t.Error(s.None(), s.Word(), s.Got())
			}
			back(t, p, 0)
			wantDo(t, "it is done", p, s, true)
			if !s.None() || len(p.Free()) != 1 {
				t.Error("it went on behind its end")
			}
			empty(t, p)
		}
	}
}

func TestTakeThatLoses(t *testing.T) {
	p := mustNew(t, 34)
	take(t, p, 0, 30)
	s := p.Take(0, 1)
	wantDo(t, "it reads", p, s, false)
	take(t, p, 0, 1)
	wantDo(t, "its Cas loses", p, s, false)
	wantWords(t, "its Cas lost", p, 2*change+1<<31-1, 0xFFFFFFFC)
	if s.Word() != -1 || len(s.Got()) != 0 || s.None() {
		t.Error("it has something")
	}
	wantDo(t, "it reads again", p, s, false)
	take(t, p, 0, 1)
	wantDo(t, "its Cas loses again", p, s, false)
	wantDo(t, "the word is full", p, s, false)
	wantDo(t, "it reads the next word", p, s, false)
	wantDo(t, "its Cas wins", p, s, true)
	wantInts(t, "Got", s.Got(), 32)
	wantWords(t, "its Cas won", p, 3*change+0xFFFFFFFF, change+0xFFFFFFFD)
}

// TestTakeLosesToWhatCameRound: the same numbers are free as were, but others had some between.
func TestTakeLosesToWhatCameRound(t *testing.T) {
	p := mustNew(t, 8)
	s := p.Take(0, 1)
	wantDo(t, "it reads", p, s, false)
	take(t, p, 0, 1)
	back(t, p, 0)
	wantDo(t, "its Cas", p, s, false)
	wantWords(t, "its Cas lost", p, 2*change+0xFFFFFF00)
	if n := finish(t, p, s); n != 2 {
		t.Error(n)
	}
	wantInts(t, "Got", s.Got(), 0)
}

func TestTakeGoesRoundOnce(t *testing.T) {
	p := mustNew(t, 96)
	empty(t, p)
	s := p.Take(1, 1)
	wantDo(t, "word 1", p, s, false)
	back(t, p, 40)
	wantDo(t, "word 2", p, s, false)
	wantDo(t, "word 0", p, s, true)
	if !s.None() {
		t.Error("it went round again")
	}
	wantInts(t, "Free", p.Free(), 40)
}

func TestSamesSteps(t *testing.T) {
	p := mustNew(t, 96)
	empty(t, p)
	full := p.Copy()
	none := p.Take(2, 1)
	finish(t, p, none)
	s := p.Same(none)
	for range 2 {
		wantDo(t, "it looks", p, s, false)
		if s.Same() {
			t.Error("they are the same ahead of its end")
		}
	}
	wantDo(t, "the last word", p, s, true)
	if !s.Same() || s.None() || s.Word() != -1 || len(s.Got()) != 0 || len(s.Left()) != 0 {
		t.Error(s.Same(), s.None(), s.Word(), s.Got(), s.Left())
	}
	back(t, p, 5)
	wantDo(t, "it is done", p, s, true)
	if !s.Same() || none.Same() {
		t.Error(s.Same(), none.Same())
	}
	take(t, p, 0, 1)
	wantWords(t, "there and back", p, full[0]+2*change, full[1], full[2])
}

func TestSameOfWordsThatChanged(t *testing.T) {
	for word := range 4 {
		p := mustNew(t, 128)
		empty(t, p)
		none := p.Take(1, 1)
		finish(t, p, none)
		back(t, p, 32*word+7)
		take(t, p, word, 1) // all are full again
		s := p.Same(none)
		if n := finish(t, p, s); n != word+1 || s.Same() {
			t.Errorf("word %d: %d Dos, the same: %v", word, n, s.Same())
		}
		wantDo(t, "it is done", p, s, true)
		if s.Same() {
			t.Error("it is done, and they are the same now")
		}
	}
}

// TestSameLooksFromWord0: a change behind the word that it looks at isn't seen.
func TestSameLooksFromWord0(t *testing.T) {
	p := mustNew(t, 64)
	empty(t, p)
	none := p.Take(1, 1)
	finish(t, p, none)
	s := p.Same(none)
	wantDo(t, "word 0", p, s, false)
	back(t, p, 0)
	wantDo(t, "word 1", p, s, true)
	if !s.Same() {
		t.Error("word 0 was looked at again")
	}
	s = p.Same(none)
	wantDo(t, "word 0", p, s, true)
	if s.Same() {
		t.Error("word 0 changed")
	}
}

func TestSameTwice(t *testing.T) {
	p := mustNew(t, 33)
	empty(t, p)
	none := p.Take(0, 1)
	finish(t, p, none)
	a, b := p.Same(none), p.Same(none)
	wantDo(t, "a", p, a, false)
	finish(t, p, b)
	back(t, p, 32)
	wantDo(t, "a", p, a, true)
	if a.Same() || !b.Same() {
		t.Error(a.Same(), b.Same())
	}
}

// TestSameOfATakeThatReadTwice: what counts is what it read last.
func TestSameOfATakeThatReadTwice(t *testing.T) {
	p := mustNew(t, 32)
	take(t, p, 0, 31)
	s := p.Take(0, 1)
	wantDo(t, "it reads", p, s, false)
	take(t, p, 0, 1)
	wantDo(t, "its Cas loses", p, s, false)
	wantDo(t, "it reads again", p, s, true)
	same := p.Same(s)
	finish(t, p, same)
	if !s.None() || !same.Same() {
		t.Error(s.None(), same.Same())
	}
}

func TestSameOfOthers(t *testing.T) {
	p := mustNew(t, 32)
	some := p.Take(0, 32)
	finish(t, p, some)
	begun := p.Take(0, 1)
	giver := p.Back([]int{0})
	none := p.Take(0, 1)
	finish(t, p, none)
	same := p.Same(none)
	finish(t, p, same)
	nothing := p.Back(nil)
	finish(t, p, nothing)
	for what, s := range map[string]*pool.Step{
		"nil": nil, "a Take that took": some, "a Take that began": begun, "a Back": giver, "a Back that is done": nothing, "a Same": same, "a Step that nobody began": {},
	} {
		if p.Same(s) != nil {
			t.Errorf("there is a Same of %s", what)
		}
	}
	other := mustNew(t, 32)
	empty(t, other)
	if other.Same(none) != nil {
		t.Error("there is a Same of another pool's Take")
	}
}

func TestBacksSteps(t *testing.T) {
	p := mustNew(t, 96)
	empty(t, p)
	s := p.Back([]int{70, 3, 65, 1, 90, 2})
	wantInts(t, "it began", s.Left(), 1, 2, 3, 65, 70, 90)
	wantDo(t, "it reads word 2", p, s, false)
	wantInts(t, "it reads word 2", s.Left(), 1, 2, 3, 65, 70, 90)
	wantInts(t, "nothing is free yet", p.Free())
	wantDo(t, "the Cas of word 2", p, s, false)
	wantInts(t, "word 2 is over", s.Left(), 1, 2, 3)
	wantInts(t, "word 2 is over", p.Free(), 65, 70, 90)
	wantDo(t, "it reads word 0", p, s, false)
	wantInts(t, "it reads word 0", s.Left(), 1, 2, 3)
	wantDo(t, "the Cas of word 0", p, s, true)
	wantInts(t, "it is done", s.Left())
	wantInts(t, "it is done", p.Free(), 1, 2, 3, 65, 70, 90)
	const full = 1<<32 - 1
	wantWords(t, "it is done", p, 2*change+full-14, change+full, 2*change+full-1<<1-1<<6-1<<26)
	if s.Word() != -1 || s.None() || s.Same() || len(s.Got()) != 0 {
		t.Error(s.Word(), s.None(), s.Same(), s.Got())
	}
	take(t, p, 0, 32)
	for range 3 {
		wantDo(t, "it is done", p, s, true)
	}
	wantInts(t, "what is done isn't done again", p.Free(), 65, 70, 90)
}

// TestBackGoesByTheWordsThatFirstCome: not by those that come last, and not rising.
func TestBackGoesByTheWordsThatFirstCome(t *testing.T) {
	p := mustNew(t, 1024)
	empty(t, p)
	s := p.Back([]int{1023, 64, 0, 1022, 100, 64, 1})
	for _, want := range [][]int{{0, 1, 64, 100}, {0, 1, 100}, {100}, nil} {
		p.Do(s)
		p.Do(s)
		wantInts(t, "Left", s.Left(), want...)
	}
	wantInts(t, "Free", p.Free(), 0, 1, 64, 100, 1022, 1023)
}

func TestBackOfWhatIsNone(t *testing.T) {
	p := mustNew(t, 40)
	empty(t, p)
	full := p.Copy()
	strange := []int{-1, -32, 40, 41, 63, 64, 1024, 1 << 32, 1<<32 + 1, -1 << 32, math.MinInt, math.MaxInt}
	for _, l := range [][]int{nil, {}, strange} {
		s := p.Back(l)
		if s == nil {
			t.Fatal("there is no Step")
		}
		wantInts(t, "Left", s.Left())
		for range 3 {
			wantDo(t, "of no ports", p, s, true)
		}
		wantWords(t, "of no ports", p, full...)
	}
	s := p.Back(append(append([]int{50, 39}, strange...), 39, 5, 39, 5))
	wantInts(t, "Left", s.Left(), 5, 39)
	if n := finish(t, p, s); n != 4 {
		t.Errorf("two words by %d Dos", n)
	}
	wantWords(t, "each was changed once", p, full[0]+change-1<<5, full[1]+change-1<<7)
}

func TestBackOfWhatIsFree(t *testing.T) {
	p := mustNew(t, 96)
	take(t, p, 1, 4) // 32 to 35
	take(t, p, 2, 1) // 64
	s := p.Back([]int{0, 1, 40, 41, 64, 65})
	wantDo(t, "none of word 0 are taken", p, s, false)
	wantInts(t, "word 0 is over", s.Left(), 40, 41, 64, 65)
	wantDo(t, "none of word 1 are taken", p, s, false)
	wantInts(t, "word 1 is over", s.Left(), 64, 65)
	wantDo(t, "it reads word 2", p, s, false)
	wantDo(t, "its Cas", p, s, true)
	wantWords(t, "free ones stay free", p, 0, change+15, 2*change)
	s = p.Back([]int{65})
	wantDo(t, "one Do", p, s, true)
	wantInts(t, "it is done", s.Left())
	wantWords(t, "nothing was changed", p, 0, change+15, 2*change)
}

func TestBackThatLoses(t *testing.T) {
	p := mustNew(t, 8)
	take(t, p, 0, 4)
	s := p.Back([]int{0, 1})
	wantDo(t, "it reads", p, s, false)
	take(t, p, 0, 1)
	wantDo(t, "its Cas loses", p, s, false)
	wantInts(t, "its Cas lost", s.Left(), 0, 1)
	wantInts(t, "its Cas lost", p.Free(), 5, 6, 7)
	wantDo(t, "it reads again", p, s, false)
	back(t, p, 0, 1)
	wantDo(t, "its Cas loses again", p, s, false)
	words := p.Copy()
	wantDo(t, "none are taken any more", p, s, true)
	wantWords(t, "nothing was changed", p, words...)
	wantInts(t, "it is done", s.Left())
}

func TestNil(t *testing.T) {
	var p *pool.Pool
	if p.Take(0, 1) != nil || p.Back([]int{0}) != nil || p.Same(nil) != nil || !p.Do(nil) || len(p.Free()) != 0 || len(p.Copy()) != 0 {
		t.Error("a nil Pool does something")
	}
	there := mustNew(t, 4)
	some := there.Take(0, 1)
	for range 3 {
		wantDo(t, "a Step of nobody", p, some, true)
		wantDo(t, "no Step", there, nil, true)
	}
	wantWords(t, "nothing was done", there, 0xFFFFFFF0)
	wantInts(t, "it may be done yet", take(t, there, 0, 4), 0, 1, 2, 3)
	none := there.Take(0, 1)
	finish(t, there, none)
	if p.Same(none) != nil {
		t.Error("a nil Pool has a Same")
	}
	var s *pool.Step
	if len(s.Got()) != 0 || s.None() || s.Word() != -1 || s.Same() || len(s.Left()) != 0 {
		t.Error("a nil Step has something")
	}
}

// TestWhatNobodyMade: a Pool and a Step that are noughts end like others.
func TestWhatNobodyMade(t *testing.T) {
	p := mustNew(t, 4)
	var s pool.Step
	wantDo(t, "a Step", p, &s, true)
	wantWords(t, "a Step", p, 0xFFFFFFF0)
	if len(s.Got()) != 0 || s.None() || s.Word() != -1 || s.Same() || len(s.Left()) != 0 {
		t.Error("a Step that nobody began has something")
	}
	var none pool.Pool
	for _, s := range []*pool.Step{none.Take(0, 1), none.Take(-1, 1), none.Back([]int{0, 1, -1}), none.Same(&s)} {
		wantDo(t, "a Pool", &none, s, true)
		if len(s.Got()) != 0 || len(s.Left()) != 0 || s.Same() {
			t.Error("a Pool without words has numbers")
		}
	}
	if len(none.Free()) != 0 || len(none.Copy()) != 0 {
		t.Error("a Pool without words has some")
	}
}

// TestStepsKeepToTheirOwn: a Step that began of one Pool does nothing to another one.
func TestStepsKeepToTheirOwn(t *testing.T) {
	p, other := mustNew(t, 8), mustNew(t, 40)
	s := other.Take(1, 2)
	finish(t, p, s)
	wantInts(t, "Got", s.Got(), 32, 33)
	finish(t, p, other.Back([]int{33}))
	wantWords(t, "who did them", p, 0xFFFFFF00)
	wantWords(t, "whose they are", other, 0, 2*change+0xFFFFFF01)
}

func TestWhatIsHandedInIsNotKept(t *testing.T) {
	p := mustNew(t, 64)
	empty(t, p)
	room := []int{40, 3, 3, 99, -1, 7, 1000}
	l := room[:5]
	s := p.Back(l)
	p.Do(s)
	wantInts(t, "ports", room, 40, 3, 3, 99, -1, 7, 1000)
	for i := range room {
		room[i] = 11
	}
	finish(t, p, s)
	wantInts(t, "Free", p.Free(), 3, 40)
}

func TestAnswersAreNewMemory(t *testing.T) {
	p := mustNew(t, 64)
	s := p.Take(0, 4)
	finish(t, p, s)
	b := p.Back([]int{2, 1, 40})
	words, free := p.Copy(), p.Free()
	for i := range 3 {
		for _, l := range [][]int{s.Got(), b.Left(), p.Free()} {
			l[i] = 99
			_ = append(l[:1], 98, 97, 96)
		}
	}
	p.Copy()[0] = 5
	wantWords(t, "Copy", p, words...)
	wantInts(t, "Free", p.Free(), free...)
	wantInts(t, "Got", s.Got(), 0, 1, 2, 3)
	wantInts(t, "Left", b.Left(), 1, 2, 40)
	got := s.Got()
	finish(t, p, b)
	wantInts(t, "what was told stays", got, 0, 1, 2, 3)
	wantInts(t, "what was told stays", free, from(4, 63)...)
	wantInts(t, "Free", p.Free(), append(from(1, 2), from(4, 63)...)...)
}
