package cache_test

import (
	"math"
	"slices"
	"testing"

	"fanlight/api"
	"fanlight/cache"
	"fanlight/pool"
)

func mustPool(t *testing.T, n int) *pool.Pool {
	t.Helper()
	p, e := pool.New(n)
	if e != api.OK || p == nil {
		t.Fatalf("a pool of %d: error %d", n, e)
	}
	return p
}

func mustNew(t *testing.T, p *pool.Pool, home int) *cache.Cache {
	t.Helper()
	c, e := cache.New(p, home)
	if e != api.OK || c == nil {
		t.Fatalf("New: %v, error %d", c, e)
	}
	return c
}

// finish does s, alone: how many Dos it took.
func finish(t *testing.T, c *cache.Cache, s *cache.Step) int {
	t.Helper()
	for n := 1; n <= 200; n++ {
		if c.Do(s) {
			return n
		}
	}
	t.Fatal("it has no end")
	return 0
}

// takeAll takes all numbers of a pool, past all caches.
func takeAll(p *pool.Pool) {
	for len(p.Free()) > 0 {
		for s := p.Take(0, 32); !p.Do(s); {
		}
	}
}

func giveBack(p *pool.Pool, l ...int) {
	for s := p.Back(l); !p.Do(s); {
	}
}

// puts puts first to last, and does each to its end.
func puts(t *testing.T, c *cache.Cache, first, last int) {
	t.Helper()
	for n := first; n <= last; n++ {
		finish(t, c, c.Put(n))
	}
}

func from(first, last int) []int {
	var l []int
	for n := first; n <= last; n++ {
		l = append(l, n)
	}
	return l
}

func falling(first, last int) []int {
	l := from(last, first)
	slices.Reverse(l)
	return l
}

func wantDo(t *testing.T, what string, c *cache.Cache, s *cache.Step, done bool) {
	t.Helper()
	if c.Do(s) != done {
		t.Errorf("%s: done isn't %v", what, done)
	}
}

func wantInts(t *testing.T, what string, got []int, want ...int) {
	t.Helper()
	if !slices.Equal(got, want) {
		t.Errorf("%s: %v, not %v", what, got, want)
	}
}

// wantAtOnce wants that the first Do of s is done, and does nothing to the pool.
func wantAtOnce(t *testing.T, what string, p *pool.Pool, c *cache.Cache, s *cache.Step) {
	t.Helper()
	words, all := p.Copy(), c.All()
	if s == nil {
		t.Fatalf("%s: there is no Step", what)
	}
	for range 3 {
		wantDo(t, what, c, s, true)
	}
	if s.None() || s.Same() || !slices.Equal(p.Copy(), words) || !slices.Equal(c.All(), all) {
		t.Errorf("%s: it did something", what)
	}
}

func TestNew(t *testing.T) {
	if c, e := cache.New(nil, 0); c != nil || e != api.ErrArg {
		t.Errorf("of no pool: %v, error %d", c, e)
	}
	p := mustPool(t, 96)
	for _, x := range []struct{ home, word int }{
		{0, 0}, {1, 1}, {2, 2}, {3, 0}, {7, 1}, {-1, 0}, {-2, 2}, {-3, 1}, {math.MinInt, 2}, {math.MaxInt, 1},
	} {
		c := mustNew(t, p, x.home)
		if n, ok := c.Top(); n != 0 || ok {
			t.Error("Top:", n, ok)
		}
		if n, ok := c.Pop(); n != 0 || ok {
			t.Error("Pop:", n, ok)
		}
		wantInts(t, "All", c.All())
		wantInts(t, "Leaving", c.Leaving())
		if c.Home() != x.word {
			t.Errorf("home %d is %d", x.home, c.Home())
		}
		finish(t, c, c.Fill())
		if n, ok := c.Top(); n != 32*x.word || !ok || c.Home() != x.word {
			t.Errorf("home %d: %d, %v; home %d", x.home, n, ok, c.Home())
		}
		finish(t, c, c.Flush())
	}
	wantInts(t, "all are free again", p.Free(), from(0, 95)...)
}

func TestExample(t *testing.T) {
	p := mustPool(t, 40)
	c := mustNew(t, p, 0)
	f := c.Fill()
	wantDo(t, "it reads", c, f, false)
	wantDo(t, "its Cas", c, f, true)
	wantInts(t, "All", c.All(), 7, 6, 5, 4, 3, 2, 1, 0)
	if n, ok := c.Pop(); n != 0 || !ok {
		t.Error(n, ok)
	}
}

func TestTopAndPop(t *testing.T) {
	c := mustNew(t, mustPool(t, 40), 0)
	for _, n := range []int{5, -3, math.MaxInt, 0, 5} {
		wantAtOnce(t, "Put", mustPool(t, 1), c, c.Put(n))
		if got, ok := c.Top(); got != n || !ok {
			t.Errorf("Top: %d, %v, not %d", got, ok, n)
		}
	}
	wantInts(t, "All", c.All(), 5, -3, math.MaxInt, 0, 5)
	for _, want := range []int{5, 0, math.MaxInt, -3, 5} {
		if got, ok := c.Top(); got != want || !ok {
			t.Errorf("Top: %d, %v, not %d", got, ok, want)
		}
		if got, ok := c.Pop(); got != want || !ok {
			t.Errorf("Pop: %d, %v, not %d", got, ok, want)
		}
	}
	for range 3 {
		if got, ok := c.Pop(); got != 0 || ok {
			t.Errorf("Pop of nothing: %d, %v", got, ok)
		}
	}
	wantInts(t, "All", c.All())
}

func TestFillsSteps(t *testing.T) {
	p := mustPool(t, 70)
	c := mustNew(t, p, 1)
	f := c.Fill()
	wantInts(t, "it began", c.All())
	wantDo(t, "it reads", c, f, false)
	wantInts(t, "it reads", c.All())
	wantDo(t, "its Cas", c, f, true)
	wantInts(t, "its Cas", c.All(), falling(39, 32)...)
	wantInts(t, "the pool", p.Free(), append(from(0, 31), from(40, 69)...)...)
	if f.None() || f.Same() || c.Home() != 1 {
		t.Error(f.None(), f.Same(), c.Home())
	}
	c.Pop()
	for range 3 {
		wantDo(t, "it is done", c, f, true)
	}
	wantInts(t, "it is done", c.All(), falling(39, 33)...)
}

func TestFillGetsTheLowestThatAreFree(t *testing.T) {
	p := mustPool(t, 64)
	takeAll(p)
	giveBack(p, 50, 40, 63, 33)
	c := mustNew(t, p, 1)
	if n := finish(t, c, c.Fill()); n != 2 {
		t.Error(n)
	}
	wantInts(t, "fewer than it wants", c.All(), 63, 50, 40, 33)
}

func TestFillLooksAtHomeAndMoves(t *testing.T) {
	p := mustPool(t, 128)
	takeAll(p)
	giveBack(p, from(100, 110)...)
	c := mustNew(t, p, 2)
	if n := finish(t, c, c.Fill()); n != 3 || c.Home() != 3 {
		t.Errorf("%d Dos, home %d", n, c.Home())
	}
	wantInts(t, "All", c.All(), falling(107, 100)...)
	for range 8 {
		c.Pop()
	}
	giveBack(p, 64)
	if n := finish(t, c, c.Fill()); n != 2 || c.Home() != 3 {
		t.Errorf("%d Dos, home %d", n, c.Home())
	}
	wantInts(t, "from its new home", c.All(), 110, 109, 108)
	for range 3 {
		c.Pop()
	}
	if n := finish(t, c, c.Fill()); n != 5 || c.Home() != 2 {
		t.Errorf("%d Dos, home %d", n, c.Home())
	}
	wantInts(t, "round the end", c.All(), 64)
}

func TestFillThatLoses(t *testing.T) {
	p := mustPool(t, 64)
	takeAll(p)
	giveBack(p, 1, 40)
	c, other := mustNew(t, p, 0), mustNew(t, p, 0)
	f := c.Fill()
	wantDo(t, "it reads", c, f, false)
	finish(t, other, other.Fill())
	wantDo(t, "its Cas loses", c, f, false)
	wantInts(t, "its Cas lost", c.All())
	if c.Home() != 0 || f.None() {
		t.Error(c.Home(), f.None())
	}
	wantDo(t, "word 0 is full", c, f, false)
	wantDo(t, "it reads word 1", c, f, false)
	wantDo(t, "its Cas wins", c, f, true)
	wantInts(t, "All", c.All(), 40)
	wantInts(t, "the other one's", other.All(), 1)
	if c.Home() != 1 || other.Home() != 0 {
		t.Error(c.Home(), other.Home())
	}
}

func TestFillOfWhoHasNumbers(t *testing.T) {
	p := mustPool(t, 40)
	c := mustNew(t, p, 0)
	c.Put(30)
	f := c.Fill()
	c.Pop() // it had one when the Fill began
	wantAtOnce(t, "there is a number", p, c, f)
	takeAll(p)
	c.Put(30)
	wantAtOnce(t, "and none is free", p, c, c.Fill())
}

// TestFillThatBeganEmpty: what is put meanwhile doesn't stop it.
func TestFillThatBeganEmpty(t *testing.T) {
	p := mustPool(t, 40)
	takeAll(p)
	giveBack(p, 3, 2)
	c := mustNew(t, p, 0)
	f := c.Fill()
	c.Put(99)
	wantDo(t, "it reads", c, f, false)
	c.Put(98)
	wantDo(t, "its Cas", c, f, true)
	wantInts(t, "they are the newest", c.All(), 99, 98, 3, 2)
}

func TestFillWhileSomeGoBack(t *testing.T) {
	p := mustPool(t, 40)
	c := mustNew(t, p, 0)
	finish(t, c, c.Fill())
	s := c.Flush()
	wantInts(t, "all leave", c.All())
	f := c.Fill()
	wantDo(t, "it goes back", c, s, false)
	g := c.Fill()
	wantDo(t, "it is back", c, s, true)
	wantAtOnce(t, "a Fill that began ahead", p, c, f)
	wantAtOnce(t, "a Fill that began between", p, c, g)
	finish(t, c, c.Fill())
	wantInts(t, "a Fill behind it", c.All(), falling(7, 0)...)
}

func TestFillFindsNone(t *testing.T) {
	p := mustPool(t, 70)
	takeAll(p)
	c := mustNew(t, p, 2)
	f := c.Fill()
	for range 2 {
		wantDo(t, "it looks", c, f, false)
		if f.None() {
			t.Error("it found none ahead of its end")
		}
	}
	wantDo(t, "the last word", c, f, true)
	if !f.None() || f.Same() || c.Home() != 2 {
		t.Error(f.None(), f.Same(), c.Home())
	}
	giveBack(p, 1)
	wantDo(t, "it is done", c, f, true)
	wantInts(t, "it is done", c.All())
	if !f.None() {
		t.Error("it forgot")
	}
}

func TestAgainsSteps(t *testing.T) {
	p := mustPool(t, 70)
	takeAll(p)
	c := mustNew(t, p, 1)
	f := c.Fill()
	finish(t, c, f)
	a := c.Again(f)
	for range 2 {
		wantDo(t, "it looks", c, a, false)
		if a.Same() {
			t.Error("all is the same ahead of its end")
		}
	}
	wantDo(t, "the last word", c, a, true)
	if !a.Same() || a.None() || f.Same() || !f.None() {
		t.Error(a.Same(), a.None(), f.Same(), f.None())
	}
	giveBack(p, 40)
	wantDo(t, "it is done", c, a, true)
	if !a.Same() {
		t.Error("it forgot")
	}
	b := c.Again(f)
	wantDo(t, "word 0", c, b, false)
	wantDo(t, "word 1 was changed", c, b, true)
	if b.Same() {
		t.Error("word 1 isn't the same")
	}
	wantInts(t, "All", c.All())
}

func TestAgainOfOthers(t *testing.T) {
	p := mustPool(t, 8)
	c := mustNew(t, p, 0)
	took := c.Fill()
	finish(t, c, took)
	stopped := c.Fill()
	finish(t, c, stopped)
	for range 8 {
		c.Pop()
	}
	begun := c.Fill()
	none := c.Fill()
	finish(t, c, none)
	same := c.Again(none)
	finish(t, c, same)
	put := c.Put(1)
	for what, s := range map[string]*cache.Step{
		"nil": nil, "a Fill that took": took, "a Fill that didn't look": stopped, "a Fill that began": begun, "an Again": same, "a Put": put, "a Flush": c.Flush(), "a Step that nobody began": {},
	} {
		if c.Again(s) != nil {
			t.Errorf("there is an Again of %s", what)
		}
	}
	// Who has the same pool may look at it for another one.
	if a := mustNew(t, p, 0).Again(none); a == nil || !c.Do(a) || !a.Same() {
		t.Error("another Cache of the same pool:", a)
	}
	q := mustPool(t, 8)
	takeAll(q)
	if mustNew(t, q, 0).Again(none) != nil {
		t.Error("there is an Again of another pool's Fill")
	}
}

func TestPutLetsTheOldestLeave(t *testing.T) {
	p := mustPool(t, 64)
	takeAll(p)
	c := mustNew(t, p, 0)
	for n := 20; n < 36; n++ {
		wantAtOnce(t, "up to 16", p, c, c.Put(n))
	}
	wantInts(t, "16", c.All(), from(20, 35)...)
	s := c.Put(36)
	wantInts(t, "the 8 oldest leave", c.All(), from(28, 36)...)
	wantInts(t, "the 8 oldest leave", c.Leaving(), from(20, 27)...)
	wantInts(t, "they aren't there yet", p.Free())
	wantDo(t, "it reads", c, s, false)
	wantInts(t, "it reads", c.Leaving(), from(20, 27)...)
	wantDo(t, "its Cas", c, s, true)
	wantInts(t, "they are there", c.Leaving())
	wantInts(t, "they are there", p.Free(), from(20, 27)...)
	wantInts(t, "the others stay", c.All(), from(28, 36)...)
	if s.None() || s.Same() {
		t.Error(s.None(), s.Same())
	}
	takeAll(p)
	wantDo(t, "it is done", c, s, true)
	wantInts(t, "it is done", p.Free())
	puts(t, c, 37, 43)
	wantInts(t, "16 again", c.All(), from(28, 43)...)
	finish(t, c, c.Put(44))
	wantInts(t, "and more", c.All(), from(36, 44)...)
	wantInts(t, "and more", p.Free(), from(28, 35)...)
}

func TestLeavingIsRising(t *testing.T) {
	p := mustPool(t, 96)
	takeAll(p)
	c := mustNew(t, p, 0)
	for _, n := range []int{70, 3, 40, 71, 2, 41, 95, 0} {
		c.Put(n)
	}
	s := c.Flush()
	wantInts(t, "all", c.Leaving(), 0, 2, 3, 40, 41, 70, 71, 95)
	for _, want := range [][]int{{0, 2, 3, 40, 41}, {40, 41}, nil} {
		c.Do(s)
		c.Do(s)
		wantInts(t, "word by word", c.Leaving(), want...)
	}
	wantInts(t, "they are there", p.Free(), 0, 2, 3, 40, 41, 70, 71, 95)
}

func TestPutWhileSomeGoBack(t *testing.T) {
	p := mustPool(t, 64)
	takeAll(p)
	c := mustNew(t, p, 0)
	puts(t, c, 0, 15)
	s := c.Put(16)
	later := c.Put(17)
	for n := 18; n < 30; n++ {
		wantAtOnce(t, "some go back yet", p, c, c.Put(n))
	}
	wantInts(t, "more than 16", c.All(), from(8, 29)...)
	wantInts(t, "the first ones alone", c.Leaving(), from(0, 7)...)
	wantAtOnce(t, "a Flush", p, c, c.Flush())
	wantInts(t, "a Flush", c.All(), from(8, 29)...)
	finish(t, c, s)
	wantAtOnce(t, "a Put that began between", p, c, later)
	wantInts(t, "a Put that began between", c.All(), from(8, 29)...)
	s = c.Put(30)
	wantInts(t, "8 leave, not more", c.All(), from(16, 30)...)
	wantInts(t, "8 leave, not more", c.Leaving(), from(8, 15)...)
	finish(t, c, s)
	wantInts(t, "the pool", p.Free(), from(0, 15)...)
}

// TestPutOfStrangeNumbers: those that the pool hasn't leave, and are nowhere then.
func TestPutOfStrangeNumbers(t *testing.T) {
	p := mustPool(t, 32)
	takeAll(p)
	c := mustNew(t, p, 0)
	for _, n := range []int{-1, 32, math.MinInt, math.MaxInt, 5, 1 << 32, 5, 4} {
		c.Put(n)
	}
	puts(t, c, 100, 107)
	s := c.Put(108)
	wantInts(t, "Leaving", c.Leaving(), 4, 5)
	wantInts(t, "All", c.All(), from(100, 108)...)
	if n := finish(t, c, s); n != 2 {
		t.Error(n)
	}
	wantInts(t, "the pool", p.Free(), 4, 5)
	puts(t, c, 109, 115)
	s = c.Put(116)
	wantInts(t, "strange ones alone", c.Leaving())
	wantInts(t, "strange ones alone", c.All(), from(108, 116)...)
	wantAtOnce(t, "they go back till their Step is done", p, c, c.Flush())
	wantAtOnce(t, "strange ones alone", p, c, s)
	c.Flush()
	wantInts(t, "behind it", c.All())
}

func TestFlush(t *testing.T) {
	p := mustPool(t, 64)
	c := mustNew(t, p, 1)
	finish(t, c, c.Fill())
	c.Pop()
	s := c.Flush()
	wantInts(t, "all leave", c.All())
	wantInts(t, "all leave", c.Leaving(), from(33, 39)...)
	if n, ok := c.Top(); n != 0 || ok {
		t.Error(n, ok)
	}
	if n, ok := c.Pop(); n != 0 || ok {
		t.Error(n, ok)
	}
	if n := finish(t, c, s); n != 2 {
		t.Error(n)
	}
	wantInts(t, "they are there", c.Leaving())
	wantInts(t, "they are there", p.Free(), append(from(0, 31), from(33, 63)...)...)
	if c.Home() != 1 {
		t.Error(c.Home())
	}
}

// TestFlushOfNothing: nothing goes back then.
func TestFlushOfNothing(t *testing.T) {
	p := mustPool(t, 64)
	c := mustNew(t, p, 0)
	s := c.Flush()
	f := c.Fill()
	wantDo(t, "a Fill", c, f, false)
	wantAtOnce(t, "of nothing", p, c, s)
	wantDo(t, "a Fill", c, f, true)
	wantInts(t, "a Fill", c.All(), falling(7, 0)...)
}

func TestBackThatLoses(t *testing.T) {
	p := mustPool(t, 32)
	c, other := mustNew(t, p, 0), mustNew(t, p, 0)
	finish(t, c, c.Fill())
	s := c.Flush()
	wantDo(t, "it reads", c, s, false)
	finish(t, other, other.Fill())
	wantDo(t, "its Cas loses", c, s, false)
	wantInts(t, "its Cas lost", c.Leaving(), from(0, 7)...)
	wantAtOnce(t, "they go back yet", p, c, c.Fill())
	wantDo(t, "it reads again", c, s, false)
	wantDo(t, "its Cas wins", c, s, true)
	wantInts(t, "Leaving", c.Leaving())
	wantInts(t, "the pool", p.Free(), append(from(0, 7), from(16, 31)...)...)
}

func TestNil(t *testing.T) {
	var c *cache.Cache
	if n, ok := c.Top(); n != 0 || ok {
		t.Error("Top:", n, ok)
	}
	if n, ok := c.Pop(); n != 0 || ok {
		t.Error("Pop:", n, ok)
	}
	if len(c.All()) != 0 || len(c.Leaving()) != 0 || c.Home() != 0 || c.Fill() != nil || c.Again(nil) != nil || c.Put(1) != nil || c.Flush() != nil || !c.Do(nil) {
		t.Error("a nil Cache does something")
	}
	p := mustPool(t, 4)
	there := mustNew(t, p, 0)
	f := there.Fill()
	for range 3 {
		wantDo(t, "a Step of nobody", c, f, true)
		wantDo(t, "no Step", there, nil, true)
	}
	wantInts(t, "nothing was done", p.Free(), 0, 1, 2, 3)
	finish(t, there, f)
	wantInts(t, "it may be done yet", there.All(), 3, 2, 1, 0)
	for range 4 {
		there.Pop()
	}
	none := there.Fill()
	finish(t, there, none)
	if !none.None() || c.Again(none) != nil {
		t.Error("a nil Cache has an Again")
	}
	var s *cache.Step
	if s.None() || s.Same() {
		t.Error("a nil Step has something")
	}
}

// TestWhatNobodyMade: a Cache, a Pool and a Step that are noughts end like others.
func TestWhatNobodyMade(t *testing.T) {
	p := mustPool(t, 4)
	there := mustNew(t, p, 0)
	var s cache.Step
	wantDo(t, "a Step", there, &s, true)
	if s.None() || s.Same() {
		t.Error("a Step that nobody began has something")
	}
	var zero cache.Cache
	for _, c := range []*cache.Cache{&zero, mustNew(t, &pool.Pool{}, 7)} {
		f := c.Fill()
		wantDo(t, "Fill", c, f, true)
		if f.None() || c.Again(f) != nil || c.Home() != 0 {
			t.Error("it looked where nothing is")
		}
		puts(t, c, 0, 16)
		wantInts(t, "All", c.All(), from(8, 16)...)
		wantInts(t, "Leaving", c.Leaving())
		finish(t, c, c.Flush())
		wantInts(t, "All", c.All())
	}
}

// TestStepsKeepToTheirOwn: a Step that began of one Cache does nothing to another one.
func TestStepsKeepToTheirOwn(t *testing.T) {
	p := mustPool(t, 64)
	c, other := mustNew(t, p, 0), mustNew(t, p, 1)
	finish(t, c, other.Fill())
	wantInts(t, "who did it", c.All())
	wantInts(t, "whose it is", other.All(), falling(39, 32)...)
	s := other.Flush()
	finish(t, c, s)
	wantInts(t, "whose it is", other.Leaving())
	finish(t, other, other.Fill())
	wantInts(t, "nothing goes back any more", other.All(), falling(39, 32)...)
}

func TestAnswersAreNewMemory(t *testing.T) {
	p := mustPool(t, 64)
	c := mustNew(t, p, 0)
	finish(t, c, c.Fill())
	puts(t, c, 40, 47)
	s := c.Put(48)
	all, leaving := c.All(), c.Leaving()
	for i := range all {
		all[i] = 99
	}
	for i := range leaving {
		leaving[i] = 99
	}
	_ = append(all[:2], 98, 97)
	_ = append(leaving[:2], 98, 97)
	wantInts(t, "All", c.All(), from(40, 48)...)
	wantInts(t, "Leaving", c.Leaving(), from(0, 7)...)
	all = c.All()
	finish(t, c, s)
	c.Pop()
	c.Put(1)
	wantInts(t, "what was told stays", all, from(40, 48)...)
	_ = append(c.All(), 55)
	wantInts(t, "All", c.All(), append(from(40, 47), 1)...)
	wantInts(t, "the pool", p.Free(), from(0, 63)...)
}
