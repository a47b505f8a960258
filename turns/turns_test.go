package turns_test

import (
	"math"
	"math/rand"
	"slices"
	"testing"

	"fanlight/cells"
	"fanlight/turns"
)

// runs are the two calls that go by picks.
var runs = []struct {
	what string
	do   func(*cells.Cells, [][]turns.Op, []int) []turns.Done
	rest bool
}{{"Run", turns.Run, false}, {"Rest", turns.Rest, true}}

// wantDones holds what worker, index, got, worker, index, got .. tell against l.
func wantDones(t *testing.T, what string, l []turns.Done, want ...int) {
	t.Helper()
	var w []turns.Done
	for i := 0; i+2 < len(want); i += 3 {
		w = append(w, turns.Done{Worker: want[i], Index: want[i+1], Got: uint64(want[i+2])})
	}
	if !slices.Equal(l, w) {
		t.Errorf("%s: %v, not %v", what, l, w)
	}
}

func wantCells(t *testing.T, what string, c *cells.Cells, want ...uint64) {
	t.Helper()
	if l := c.Copy(); !slices.Equal(l, want) {
		t.Errorf("%s: cells %v, not %v", what, l, want)
	}
}

func TestExample(t *testing.T) {
	p := []turns.Op{load(0), {Kind: turns.Cas, Kept: true, B: 1}}
	for _, r := range runs {
		c := cellsOf(t, 0)
		l := r.do(c, [][]turns.Op{p, p}, []int{0, 1, 0, 1})
		wantDones(t, r.what, l, 0, 0, 0, 1, 0, 0, 0, 1, 1, 1, 1, 0)
		wantCells(t, r.what, c, 1)
	}
}

func TestKinds(t *testing.T) {
	if turns.Load != 0 || turns.Store != 1 || turns.Cas != 2 || turns.Add != 3 {
		t.Error("the kinds' numbers")
	}
	c := cellsOf(t, 5, 6)
	l := turns.Run(c, [][]turns.Op{{
		{Kind: 0, Cell: 1, A: 9, B: 9},
		{Kind: 1, Cell: 0, A: 7, B: 9},
		{Kind: 2, Cell: 0, A: 6, B: 8},
		{Kind: 2, Cell: 0, A: 7, B: 8},
		{Kind: 3, Cell: 1, A: 4, B: 9},
		{Kind: 3, Cell: 1, A: math.MaxUint64},
	}}, make([]int, 6))
	wantDones(t, "kinds", l, 0, 0, 6, 0, 1, 0, 0, 2, 0, 0, 3, 1, 0, 4, 10, 0, 5, 9)
	wantCells(t, "kinds", c, 8, 9)
}

func TestOtherKinds(t *testing.T) {
	for _, kind := range []int{-1, 4, 5, 256, 1 << 32, math.MinInt, math.MaxInt} {
		c := cellsOf(t, 5)
		program := []turns.Op{
			load(0),
			{Kind: kind, A: 5, B: 9},
			{Kind: kind, Kept: true},
			{Kind: turns.Add, Kept: true},
		}
		l := turns.Run(c, [][]turns.Op{program}, make([]int, 4))
		wantDones(t, "another kind", l, 0, 0, 5, 0, 1, 0, 0, 2, 0, 0, 3, 10)
		wantCells(t, "another kind", c, 10)
	}
}

func TestKept(t *testing.T) {
	kept := func(kind int) turns.Op { return turns.Op{Kind: kind, Cell: 1, A: 100, B: 9, Kept: true} }
	for _, x := range []struct {
		what    string
		program []turns.Op
		got     []uint64
		cell1   uint64
	}{
		{"a Store at first", []turns.Op{kept(1)}, []uint64{0}, 0},
		{"an Add at first", []turns.Op{kept(3)}, []uint64{50}, 50},
		{"a Cas at first", []turns.Op{kept(2)}, []uint64{0}, 50},
		{"a Store", []turns.Op{load(0), kept(1)}, []uint64{7, 0}, 7},
		{"an Add", []turns.Op{load(0), kept(3)}, []uint64{7, 57}, 57},
		{"a Cas that loses", []turns.Op{load(0), kept(2)}, []uint64{7, 0}, 50},
		{"a Cas that wins", []turns.Op{load(1), kept(2)}, []uint64{50, 1}, 9},
		{"the last of two Loads", []turns.Op{load(0), load(1), kept(3)}, []uint64{7, 50, 100}, 100},
		{"a Load of no cell", []turns.Op{load(0), load(2), kept(3)}, []uint64{7, 0, 50}, 50},
		{"a Load that is Kept", []turns.Op{load(0), kept(0), kept(3)}, []uint64{7, 50, 100}, 100},
		{"an Add isn't a Load", []turns.Op{add(0, 1), kept(3)}, []uint64{8, 50}, 50},
		{"a Cas isn't a Load", []turns.Op{{Kind: 2, A: 7, B: 8}, kept(3)}, []uint64{1, 50}, 50},
		{"it is kept on", []turns.Op{load(0), add(0, 1), kept(3), kept(3)}, []uint64{7, 8, 57, 64}, 64},
		{"without Kept", []turns.Op{load(0), add(1, 1)}, []uint64{7, 51}, 51},
	} {
		c := cellsOf(t, 7, 50)
		if l := turns.Free(c, [][]turns.Op{x.program}); len(l) != 1 || !slices.Equal(l[0], x.got) || c.Load(1) != x.cell1 {
			t.Errorf("Free, %s: %v, cells %v", x.what, l, c.Copy())
		}
		c = cellsOf(t, 7, 50)
		l := turns.Rest(c, [][]turns.Op{x.program}, nil)
		for i, d := range l {
			if len(l) != len(x.got) || d != (turns.Done{Index: i, Got: x.got[i]}) || c.Load(1) != x.cell1 {
				t.Errorf("Rest, %s: %v, cells %v", x.what, l, c.Copy())
			}
		}
	}
}

func TestKeptIsEachWorkersOwn(t *testing.T) {
	c := cellsOf(t, 7, 8, 0)
	own := func(cell int) []turns.Op {
		return []turns.Op{load(cell), {Kind: turns.Add, Cell: 2, Kept: true}}
	}
	l := turns.Run(c, [][]turns.Op{own(0), own(1), {{Kind: turns.Add, Cell: 2, Kept: true}}}, []int{0, 1, 2, 0, 1})
	wantDones(t, "each worker's own", l, 0, 0, 7, 1, 0, 8, 2, 0, 0, 0, 1, 7, 1, 1, 15)
}

func TestPicks(t *testing.T) {
	one := []turns.Op{add(0, 1)}
	three := [][]turns.Op{one, one, one}
	for _, x := range []struct {
		pick, worker int
	}{
		{0, 0}, {1, 1}, {2, 2}, {3, 0}, {7, 1}, {math.MaxInt, 1},
		{-1, 0}, {-2, 2}, {-3, 1}, {-4, 0}, {math.MinInt, 2}, {math.MinInt + 1, 0},
	} {
		l := turns.Run(cellsOf(t, 0), three, []int{x.pick})
		wantDones(t, "a pick of three", l, x.worker, 0, 1)
	}
	for _, p := range []int{0, 1, -1, math.MinInt, math.MaxInt} {
		wantDones(t, "a pick of one", turns.Run(cellsOf(t, 0), three[:1], []int{p}), 0, 0, 1)
	}
}

func TestPicksOfWhoIsThrough(t *testing.T) {
	programs := [][]turns.Op{{add(0, 1)}, {}, {add(0, 1), add(0, 1)}, nil}
	c := cellsOf(t, 0)
	l := turns.Run(c, programs, []int{1, 0, 0, 3, 2, 0, 1})
	wantDones(t, "Run", l, 0, 0, 1, 2, 0, 2)
	wantCells(t, "Run", c, 2)
	c = cellsOf(t, 0)
	l = turns.Rest(c, programs, []int{1, 2, 3, 1})
	wantDones(t, "Rest", l, 2, 0, 1, 0, 0, 2, 2, 1, 3)
	wantCells(t, "Rest", c, 3)
}

func TestRestGoesWorkerByWorker(t *testing.T) {
	p := []turns.Op{add(0, 1), add(0, 1)}
	l := turns.Rest(cellsOf(t, 0), [][]turns.Op{p, p, p}, []int{2, 1})
	wantDones(t, "Rest", l, 2, 0, 1, 1, 0, 2, 0, 0, 3, 0, 1, 4, 1, 1, 5, 2, 1, 6)
	l = turns.Rest(cellsOf(t, 0), [][]turns.Op{p, p}, nil)
	wantDones(t, "Rest without picks", l, 0, 0, 1, 0, 1, 2, 1, 0, 3, 1, 1, 4)
}

func TestNothingToDo(t *testing.T) {
	c := cellsOf(t, 3)
	for _, r := range runs {
		for _, programs := range [][][]turns.Op{nil, {}, {nil}, {{}, {}}} {
			for _, picks := range [][]int{nil, {}, {0, 1, -1}} {
				if l := r.do(c, programs, picks); len(l) != 0 {
					t.Errorf("%s of %v: %v", r.what, programs, l)
				}
			}
		}
	}
	if l := turns.Run(c, [][]turns.Op{{add(0, 1)}}, nil); len(l) != 0 {
		t.Error("Run without picks:", l)
	}
	if l := turns.Free(c, nil); len(l) != 0 {
		t.Error("Free of nobody:", l)
	}
	if l := turns.Free(c, [][]turns.Op{{}, nil}); len(l) != 2 || len(l[0]) != 0 || len(l[1]) != 0 {
		t.Error("Free of two who do nothing:", l)
	}
	wantCells(t, "nothing to do", c, 3)
}

func TestWorkersBeyondTheMost(t *testing.T) {
	for _, n := range []int{63, 64, 65, 66, 200} {
		there := min(n, 64)
		programs := make([][]turns.Op, n)
		for w := range programs {
			programs[w] = []turns.Op{add(0, 1), add(0, 1)}
		}
		l := turns.Run(cellsOf(t, 0), programs, []int{63, 64, 65})
		wantDones(t, "Run", l, 63%there, 0, 1, 64%there, 0, 2, 65%there, 0, 3)
		c := cellsOf(t, 0)
		rest := turns.Rest(c, programs, []int{n - 1, n})
		if len(rest) != 2*there || rest[len(rest)-1].Worker != there-1 {
			t.Errorf("Rest of %d: %d", n, len(rest))
		}
		wantCells(t, "Rest", c, uint64(2*there))
		c = cellsOf(t, 0)
		if got := turns.Free(c, programs); len(got) != there {
			t.Errorf("Free of %d: %d", n, len(got))
		}
		wantCells(t, "Free", c, uint64(2*there))
	}
}

func TestNilCells(t *testing.T) {
	p := []turns.Op{load(0), {Kind: turns.Store, A: 5}, load(0), {Kind: turns.Cas, B: 5}, add(0, 5), {Kind: 9}, {Kind: turns.Add, Kept: true}}
	for _, r := range runs {
		l := r.do(nil, [][]turns.Op{p, p}, []int{1, 0, 0, 0, 0, 0, 0, 0, 0, 1, 1, 1, 1, 1, 1, 1})
		if len(l) != 2*len(p) {
			t.Errorf("%s: %d", r.what, len(l))
		}
		for _, d := range l {
			if d.Got != 0 {
				t.Errorf("%s: %v", r.what, d)
			}
		}
	}
	for _, l := range turns.Free(nil, [][]turns.Op{p, p}) {
		if !slices.Equal(l, make([]uint64, len(p))) {
			t.Error(l)
		}
	}
}

func TestAgainstOneWhoIsAlone(t *testing.T) {
	rnd := rand.New(rand.NewSource(6))
	for range 3000 {
		size := 1 + rnd.Intn(3)
		programs := randomPrograms(rnd, rnd.Intn(6), 8, size)
		picks := randomPicks(rnd, rnd.Intn(30))
		for _, r := range runs {
			b := make(board, size)
			want := expected(b, programs, picks, r.rest)
			c := cellsOf(t, make([]uint64, size)...)
			if got := r.do(c, programs, picks); !slices.Equal(got, want) {
				t.Fatalf("%s of %v by %v: %v, not %v", r.what, programs, picks, got, want)
			}
			wantCells(t, r.what, c, b...)
			if o := turns.Orders(want, len(programs)); !slices.Equal(o, countsOf(want, len(programs))) {
				t.Fatalf("%s: Orders of %v: %v", r.what, want, o)
			}
		}
	}
}

// countsOf is how many Dones each worker has.
func countsOf(l []turns.Done, workers int) []int {
	n := make([]int, workers)
	for _, d := range l {
		n[d.Worker]++
	}
	return n
}

func TestOrders(t *testing.T) {
	dones := func(l ...int) []turns.Done {
		var out []turns.Done
		for i := 0; i+1 < len(l); i += 2 {
			out = append(out, turns.Done{Worker: l[i], Index: l[i+1], Got: uint64(i)})
		}
		return out
	}
	for _, x := range []struct {
		what    string
		l       []turns.Done
		workers int
		want    []int
	}{
		{"of nothing", nil, 2, []int{0, 0}},
		{"two by turns", dones(0, 0, 1, 0, 1, 1, 0, 1, 0, 2), 2, []int{3, 2}},
		{"one that is left out", dones(0, 0, 0, 2, 0, 3), 1, []int{1}},
		{"one that is late", dones(0, 0, 0, 2, 0, 1, 0, 2), 1, []int{1}},
		{"one twice", dones(0, 0, 0, 1, 0, 1, 0, 2), 1, []int{2}},
		{"the first isn't there", dones(0, 1, 0, 0, 0, 1), 1, []int{0}},
		{"below 0", dones(0, -1, 0, 0), 1, []int{0}},
		{"each by itself", dones(0, 0, 1, 1, 0, 1, 1, 0, 2, 0), 3, []int{2, 0, 1}},
		{"others' aren't looked at", dones(-1, 0, 2, 0, 0, 0, 64, 0, 2, 5, 0, 1), 2, []int{2, 0}},
		{"who has none", dones(0, 0), 3, []int{1, 0, 0}},
		{"no workers", dones(0, 0), 0, nil},
		{"below 1", dones(0, 0), -1, nil},
		{"far below 1", dones(0, 0), math.MinInt, nil},
	} {
		if got := turns.Orders(x.l, x.workers); !slices.Equal(got, x.want) {
			t.Errorf("%s: %v, not %v", x.what, got, x.want)
		}
	}
}

func TestOrdersOfTheFirst64(t *testing.T) {
	var l []turns.Done
	for w := range 70 {
		l = append(l, turns.Done{Worker: w})
	}
	for _, workers := range []int{63, 64, 65, 70, 1 << 40, math.MaxInt} {
		got := turns.Orders(l, workers)
		if len(got) != min(workers, 64) || slices.Min(got) != 1 || slices.Max(got) != 1 {
			t.Errorf("Orders of %d: %v", workers, got)
		}
	}
	l = []turns.Done{{Worker: math.MinInt}, {Worker: math.MaxInt}, {Worker: 1 << 32}, {Worker: 1<<32 + 1}}
	if got := turns.Orders(l, 64); slices.Max(got) != 0 {
		t.Error(got)
	}
}
