package cells_test

import (
	"math"
	"math/rand"
	"slices"
	"testing"

	"fanlight/api"
	"fanlight/cells"
)

func mustNew(t *testing.T, n int) *cells.Cells {
	t.Helper()
	c, e := cells.New(n)
	if e != api.OK || c == nil {
		t.Fatalf("New(%d): %v, error %d", n, c, e)
	}
	return c
}

func TestNew(t *testing.T) {
	for _, n := range []int{math.MinInt, -65536, -1, 0, 65537, 1 << 32, 1<<32 + 1, math.MaxInt} {
		if c, e := cells.New(n); e != api.ErrArg || c != nil {
			t.Errorf("New(%d): %v, error %d", n, c, e)
		}
	}
	for _, n := range []int{1, 2, 64, 65535, 65536} {
		c := mustNew(t, n)
		if l := c.Copy(); c.Size() != n || !slices.Equal(l, make([]uint64, n)) {
			t.Errorf("New(%d): %d cells, %d copied", n, c.Size(), len(l))
		}
		c.Store(n-1, 9)
		if c.Load(n-1) != 9 {
			t.Errorf("New(%d): its last cell isn't there", n)
		}
	}
}

func TestExample(t *testing.T) {
	c := mustNew(t, 1)
	if !c.Cas(0, 0, 7) {
		t.Error("the first Cas lost")
	}
	if c.Cas(0, 0, 7) {
		t.Error("the second Cas won")
	}
	if c.Load(0) != 7 {
		t.Error(c.Load(0))
	}
}

func TestEachCall(t *testing.T) {
	const top = math.MaxUint64
	c := mustNew(t, 3)
	want := func(what string, l ...uint64) {
		t.Helper()
		if got := c.Copy(); !slices.Equal(got, l) {
			t.Errorf("%s: %v, not %v", what, got, l)
		}
	}
	c.Store(1, top)
	want("Store", 0, top, 0)
	if got := c.Load(1); got != top {
		t.Errorf("Load: %d", got)
	}
	if got := c.Add(1, 1); got != 0 {
		t.Errorf("Add of 1 to the greatest: %d", got)
	}
	want("Add", 0, 0, 0)
	if got := c.Add(2, top); got != top {
		t.Errorf("Add of the greatest: %d", got)
	}
	if got := c.Add(2, top); got != top-1 {
		t.Errorf("Add of the greatest again: %d", got)
	}
	if got := c.Add(2, 0); got != top-1 {
		t.Errorf("Add of 0: %d", got)
	}
	want("Add of the greatest", 0, 0, top-1)
	if c.Cas(2, top, 5) {
		t.Error("a Cas from another number won")
	}
	want("a Cas that lost", 0, 0, top-1)
	if !c.Cas(2, top-1, top-1) {
		t.Error("a Cas to the same number lost")
	}
	if !c.Cas(2, top-1, 1<<63) {
		t.Error("a Cas lost")
	}
	want("a Cas that won", 0, 0, 1<<63)
	if c.Cas(0, 1<<32, 1) {
		t.Error("a Cas from a number of which the lower half is there won")
	}
}

// row is what cells are to one who is alone: plain numbers.
type row []uint64

func (r row) has(i int) bool { return i >= 0 && i < len(r) }

func (r row) load(i int) uint64 {
	if !r.has(i) {
		return 0
	}
	return r[i]
}

func (r row) store(i int, v uint64) {
	if r.has(i) {
		r[i] = v
	}
}

func (r row) cas(i int, old, now uint64) bool {
	if !r.has(i) || r[i] != old {
		return false
	}
	r[i] = now
	return true
}

func (r row) add(i int, by uint64) uint64 {
	r.store(i, r.load(i)+by)
	return r.load(i)
}

func TestAgainstPlainNumbers(t *testing.T) {
	rnd := rand.New(rand.NewSource(5))
	values := []uint64{0, 1, 2, 1<<32 - 1, 1 << 32, 1 << 63, math.MaxUint64}
	value := func() uint64 { return values[rnd.Intn(len(values))] }
	for range 200 {
		n := 1 + rnd.Intn(5)
		c, r := mustNew(t, n), make(row, n)
		for range 200 {
			i, a, b := rnd.Intn(n+2)-1, value(), value()
			switch rnd.Intn(4) {
			case 0:
				if got, want := c.Load(i), r.load(i); got != want {
					t.Fatalf("Load(%d) = %d, not %d", i, got, want)
				}
			case 1:
				c.Store(i, a)
				r.store(i, a)
			case 2:
				if got, want := c.Cas(i, a, b), r.cas(i, a, b); got != want {
					t.Fatalf("Cas(%d, %d, %d) = %v, not %v", i, a, b, got, want)
				}
			case 3:
				if got, want := c.Add(i, a), r.add(i, a); got != want {
					t.Fatalf("Add(%d, %d) = %d, not %d", i, a, got, want)
				}
			}
			if l := c.Copy(); !slices.Equal(l, r) || c.Size() != n {
				t.Fatalf("%v, not %v", l, r)
			}
		}
	}
}

// wantNothing holds c, which has no cell i, against what is answered of such a one.
func wantNothing(t *testing.T, what string, c *cells.Cells, i int) {
	t.Helper()
	ahead := c.Copy()
	c.Store(i, 9)
	if c.Load(i) != 0 || c.Cas(i, 0, 1) || c.Cas(i, 9, 1) || c.Cas(i, 0, 0) || c.Add(i, 3) != 0 || c.Load(i) != 0 {
		t.Errorf("%s: there is a cell %d", what, i)
	}
	if !slices.Equal(c.Copy(), ahead) {
		t.Errorf("%s: cell %d changed %v to %v", what, i, ahead, c.Copy())
	}
}

func TestCellsThatThereAreNot(t *testing.T) {
	for _, n := range []int{1, 3, 65536} {
		c := mustNew(t, n)
		for i := range n {
			c.Store(i, uint64(i)+1)
		}
		for _, i := range []int{-1, n, n + 1, -n, -1 << 32, 1 << 32, math.MinInt, math.MaxInt} {
			wantNothing(t, "a row", c, i)
		}
	}
}

func TestCellsOfNothing(t *testing.T) {
	for _, i := range []int{-1, 0, 1, math.MinInt, math.MaxInt} {
		wantNothing(t, "nil", nil, i)
		wantNothing(t, "a row that nobody made", &cells.Cells{}, i)
	}
	var c *cells.Cells
	if c.Size() != 0 || len(c.Copy()) != 0 {
		t.Error("nil has cells")
	}
	c.Once(func() { t.Error("f was called") })
	c.Once(nil)
}

func TestCopyIsNewMemory(t *testing.T) {
	c := mustNew(t, 2)
	c.Store(1, 5)
	a, b := c.Copy(), c.Copy()
	a[0], a[1] = 7, 7
	if c.Load(0) != 0 || c.Load(1) != 5 || b[1] != 5 {
		t.Error(c.Copy(), b)
	}
	c.Store(1, 6)
	if b[1] != 5 {
		t.Error("a copy goes on with the cells")
	}
}

func TestRowsAreTheirOwn(t *testing.T) {
	a, b := mustNew(t, 1), mustNew(t, 1)
	a.Store(0, 5)
	n := 0
	a.Once(func() { n++ })
	b.Once(func() { n++ })
	if b.Load(0) != 0 || n != 2 {
		t.Error(b.Load(0), n)
	}
}

func TestOnce(t *testing.T) {
	c := mustNew(t, 1)
	n := 0
	c.Once(func() { n++; c.Add(0, 5) })
	for range 3 {
		c.Once(func() { n += 100 })
	}
	if n != 1 || c.Load(0) != 5 {
		t.Errorf("called %d times, cell %d", n, c.Load(0))
	}
}

func TestOnceOfNothing(t *testing.T) {
	c := mustNew(t, 1)
	c.Once(nil)
	c.Once(func() { t.Error("it was called, but Once was ahead") })
	c.Once(nil)
}

func TestOncePanicsNever(t *testing.T) {
	for _, with := range []any{"a text", 5, nil} {
		c := mustNew(t, 1)
		n := 0
		c.Once(func() { n++; panic(with) })
		c.Once(func() { n++ })
		if n != 1 {
			t.Errorf("a panic of %v: called %d times", with, n)
		}
	}
}
