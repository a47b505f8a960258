package cache

import (
	"slices"

	"fanlight/api"
	"fanlight/pool"
)

// Step is a Fill, an Again, or numbers that go back. It is its Cache's own, whoever is asked to do it.
type Step struct {
	cache *Cache     // nil: it is done, or nobody began it
	step  *pool.Step // nil: it is done without a step
}

// Fill begins to take numbers from the pool, if there are none, and none go back.
func (c *Cache) Fill() *Step {
	if c == nil {
		return nil
	}
	if len(c.numbers) > 0 || c.back != nil {
		return &Step{cache: c}
	}
	return &Step{cache: c, step: c.pool.Take(c.home, api.CacheHalf)}
}

// Again begins to look whether the pool is as f, which found none, read it.
func (c *Cache) Again(f *Step) *Step {
	if c == nil || !f.None() {
		return nil
	}
	same := c.pool.Same(f.step)
	if same == nil {
		return nil
	}
	return &Step{cache: c, step: same}
}

// Put lets n be the newest number; the oldest ones may begin to go back.
func (c *Cache) Put(n int) *Step {
	if c == nil {
		return nil
	}
	c.numbers = append(c.numbers, n)
	if len(c.numbers) <= api.CacheMost {
		return &Step{cache: c}
	}
	return c.leave(api.CacheHalf)
}

// Flush lets all numbers begin to go back.
func (c *Cache) Flush() *Step {
	if c == nil {
		return nil
	}
	return c.leave(len(c.numbers))
}

// Do does one step of s: is it done?
func (c *Cache) Do(s *Step) bool {
	if c == nil || s == nil || s.cache == nil {
		return true
	}
	if !s.cache.pool.Do(s.step) {
		return false
	}
	s.cache.settle(s.step)
	s.cache = nil
	return true
}

// None tells whether s is a Fill that is done, and took none, though it looked.
func (s *Step) None() bool { return s != nil && s.step.None() }

// Same tells whether s is an Again that is done, and found all the same.
func (s *Step) Same() bool { return s != nil && s.step.Same() }

// leave lets the oldest n numbers begin to go back, if none do yet.
func (c *Cache) leave(n int) *Step {
	if c.back != nil || n == 0 {
		return &Step{cache: c}
	}
	c.back = c.pool.Back(c.numbers[:n])
	c.numbers = slices.Delete(c.numbers, 0, n)
	return &Step{cache: c, step: c.back}
}

// settle notes what came of a step of the pool that is done.
func (c *Cache) settle(s *pool.Step) {
	if s != nil && s == c.back {
		c.back = nil
	}
	if s.Word() < 0 {
		return
	}
	c.home = s.Word()
	got := s.Got()
	// The lowest is to be the newest.
	slices.Reverse(got)
	c.numbers = append(c.numbers, got...)
}
