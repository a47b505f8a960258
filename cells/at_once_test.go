package cells_test

import (
	"math"
	"sync"
	"testing"
)

const (
	many  = 8
	times = 5000
)

// together calls f for each of many, all at one time.
func together(f func(w int)) {
	begin := make(chan struct{})
	var all sync.WaitGroup
	for w := range many {
		all.Add(1)
		go func() {
			defer all.Done()
			<-begin
			f(w)
		}()
	}
	close(begin)
	all.Wait()
}

func TestAddsAtOneTime(t *testing.T) {
	c := mustNew(t, 2)
	var got [many][]uint64
	together(func(w int) {
		for range times {
			got[w] = append(got[w], c.Add(1, 1))
		}
	})
	seen := make([]bool, many*times+1)
	for w, l := range got {
		last := uint64(0)
		for _, n := range l {
			if n <= last || n > many*times || seen[n] {
				t.Fatalf("worker %d was told %d behind %d, or another one was", w, n, last)
			}
			seen[n], last = true, n
		}
	}
	if c.Load(1) != many*times || c.Load(0) != 0 {
		t.Error(c.Copy())
	}
}

func TestCasesAtOneTime(t *testing.T) {
	c := mustNew(t, 1)
	var won [many][]uint64
	together(func(w int) {
		for range times {
			n := c.Load(0)
			if c.Cas(0, n, n+1) {
				won[w] = append(won[w], n)
			}
		}
	})
	from := make([]bool, many*times)
	total := 0
	for w, l := range won {
		for _, n := range l {
			if from[n] {
				t.Fatalf("worker %d: two won from %d", w, n)
			}
			from[n] = true
			total++
		}
	}
	if total == 0 || c.Load(0) != uint64(total) {
		t.Errorf("%d won, but there is %d", total, c.Load(0))
	}
}

// TestStoresAtOneTime: a number is there whole, and is one of those that were stored.
func TestStoresAtOneTime(t *testing.T) {
	c := mustNew(t, 1)
	together(func(w int) {
		mine := uint64(w+1) * 0x0101010101010101
		for range times {
			c.Store(0, mine)
			if n := c.Load(0); n%0x0101010101010101 != 0 || n == 0 || n > many*0x0101010101010101 {
				t.Errorf("%x was never stored", n)
				return
			}
		}
	})
}

// TestKindsAtOneTime: what Cas and Add change of one cell isn't lost between each other.
func TestKindsAtOneTime(t *testing.T) {
	c := mustNew(t, 1)
	var added [many]uint64
	together(func(w int) {
		for i := range times {
			by := uint64(w*times + i)
			if w%2 == 0 {
				c.Add(0, by)
				added[w] += by
			} else if n := c.Load(0); c.Cas(0, n, n-by) {
				added[w] -= by
			}
		}
	})
	sum := uint64(0)
	for _, n := range added {
		sum += n
	}
	if c.Load(0) != sum {
		t.Errorf("%d, not %d", c.Load(0), sum)
	}
}

// TestOrderOfTwoCells: who sees the later Store sees the earlier one.
func TestOrderOfTwoCells(t *testing.T) {
	c := mustNew(t, 2)
	together(func(w int) {
		for i := range uint64(times) {
			if w == 0 {
				c.Store(0, i)
				c.Store(1, i)
				continue
			}
			later := c.Load(1)
			if earlier := c.Load(0); earlier < later {
				t.Errorf("worker %d saw %d ahead of %d", w, later, earlier)
				return
			}
		}
	})
}

// TestLeastOfMany: each Cas that wins lowers the cell; so it ends at the least that anybody has.
func TestLeastOfMany(t *testing.T) {
	c := mustNew(t, 1)
	c.Store(0, math.MaxUint64)
	together(func(w int) {
		for i := range times {
			mine := uint64(i*7919%times*many + w + 1)
			for n := c.Load(0); mine < n && !c.Cas(0, n, mine); n = c.Load(0) {
			}
		}
	})
	if c.Load(0) != 1 {
		t.Error(c.Load(0))
	}
}

func TestOnceAtOneTime(t *testing.T) {
	for range 100 {
		c := mustNew(t, 1)
		n := 0
		var saw [many]int
		together(func(w int) {
			c.Once(func() { n++ })
			// Whoever is back from Once sees what was done, without a cell between.
			saw[w] = n
		})
		for w, s := range saw {
			if s != 1 {
				t.Fatalf("worker %d saw that it was called %d times", w, s)
			}
		}
	}
}
