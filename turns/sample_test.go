package turns_test

import (
	"math/rand"
	"slices"
	"testing"

	"fanlight/api"
	"fanlight/cells"
	"fanlight/turns"
)

// cellsOf is a row of cells with these numbers.
func cellsOf(t *testing.T, l ...uint64) *cells.Cells {
	t.Helper()
	c, e := cells.New(len(l))
	if e != api.OK {
		t.Fatal(e)
	}
	for i, v := range l {
		c.Store(i, v)
	}
	return c
}

// board is what cells are to one who is alone.
type board []uint64

// apply does one Op of a worker who Kept that number: what it gets.
func (b board) apply(o turns.Op, kept uint64) uint64 {
	if o.Cell < 0 || o.Cell >= len(b) || o.Kind < 0 || o.Kind > 3 {
		return 0
	}
	a := o.A
	if o.Kept {
		a = kept
	}
	was := b[o.Cell]
	switch {
	case o.Kind == 0:
		return was
	case o.Kind == 1:
		b[o.Cell] = a
	case o.Kind == 2 && was == a:
		b[o.Cell] = o.B
		return 1
	case o.Kind == 3:
		b[o.Cell] = was + a
		return was + a
	}
	return 0
}

// keptOf is what the last Load of these Ops got.
func keptOf(ops []turns.Op, got []uint64) uint64 {
	for i := len(got) - 1; i >= 0; i-- {
		if ops[i].Kind == 0 {
			return got[i]
		}
	}
	return 0
}

// expected is what Run should tell, or Rest; what it leaves is in b.
func expected(b board, programs [][]turns.Op, picks []int, rest bool) []turns.Done {
	n := min(len(programs), 64)
	got := make([][]uint64, n)
	var l []turns.Done
	step := func(w int) bool {
		i := len(got[w])
		if i == len(programs[w]) {
			return false
		}
		g := b.apply(programs[w][i], keptOf(programs[w], got[w]))
		got[w] = append(got[w], g)
		l = append(l, turns.Done{Worker: w, Index: i, Got: g})
		return true
	}
	for _, p := range picks {
		if n > 0 {
			step(int(uint64(p) % uint64(n)))
		}
	}
	for w := 0; rest && w < n; w++ {
		for step(w) {
		}
	}
	return l
}

func randomOp(rnd *rand.Rand, size int) turns.Op {
	return turns.Op{
		Kind: rnd.Intn(6) - 1,
		Cell: rnd.Intn(size+2) - 1,
		A:    uint64(rnd.Intn(3)) - 1,
		B:    uint64(rnd.Intn(3)),
		Kept: rnd.Intn(2) == 0,
	}
}

func randomPrograms(rnd *rand.Rand, workers, most, size int) [][]turns.Op {
	l := make([][]turns.Op, workers)
	for w := range l {
		for range rnd.Intn(most + 1) {
			l[w] = append(l[w], randomOp(rnd, size))
		}
	}
	return l
}

// randomPicks has numbers from everywhere, for workers of any number.
func randomPicks(rnd *rand.Rand, n int) []int {
	l := make([]int, n)
	for i := range l {
		l[i] = int(rnd.Uint64())
	}
	return l
}

// samePrograms tells whether two lists of programs are the same, Op by Op.
func samePrograms(a, b [][]turns.Op) bool {
	return slices.EqualFunc(a, b, func(x, y []turns.Op) bool { return slices.Equal(x, y) })
}

func copyPrograms(l [][]turns.Op) [][]turns.Op {
	out := make([][]turns.Op, len(l))
	for i := range l {
		out[i] = slices.Clone(l[i])
	}
	return out
}

func load(cell int) turns.Op { return turns.Op{Kind: turns.Load, Cell: cell} }

func add(cell int, by uint64) turns.Op { return turns.Op{Kind: turns.Add, Cell: cell, A: by} }
