package turns_test

import (
	"math/rand"
	"slices"
	"strconv"
	"testing"

	"fanlight/cells"
	"fanlight/turns"
)

// search looks for picks by which programs get what they got, and leave what was left.
type search struct {
	programs [][]turns.Op
	got      [][]uint64
	left     []uint64
	barred   map[string]bool // where nothing was found already
}

// explained tells whether there are such picks, from cells that are all 0.
func explained(programs [][]turns.Op, got [][]uint64, left []uint64) bool {
	s := search{programs: programs, got: got, left: left, barred: map[string]bool{}}
	return s.from(make([]int, len(programs)), make(board, len(left)))
}

func (s *search) from(at []int, b board) bool {
	at, b = slices.Clone(at), slices.Clone(b)
	for s.readOne(at, b) {
	}
	if s.through(at) {
		return slices.Equal(b, s.left)
	}
	key := keyOf(at, b)
	if s.barred[key] {
		return false
	}
	s.barred[key] = true
	for w := range at {
		if next, ok := s.try(w, at, b); ok {
			at[w]++
			if s.from(at, next) {
				return true
			}
			at[w]--
		}
	}
	return false
}

// readOne goes on by one Op that fits and only reads: to do it at once bars no way. (A Store of what is there already may have to wait.)
func (s *search) readOne(at []int, b board) bool {
	for w := range at {
		if _, ok := s.try(w, at, b); ok && s.reads(w, at[w]) {
			at[w]++
			return true
		}
	}
	return false
}

func (s *search) reads(w, i int) bool {
	kind := s.programs[w][i].Kind
	return kind != turns.Store && kind != turns.Add && (kind != turns.Cas || s.got[w][i] == 0)
}

// try is the cells behind the next Op of w, if it gets there what it got.
func (s *search) try(w int, at []int, b board) (board, bool) {
	i := at[w]
	if i == len(s.programs[w]) {
		return nil, false
	}
	next := slices.Clone(b)
	g := next.apply(s.programs[w][i], keptOf(s.programs[w], s.got[w][:i]))
	return next, g == s.got[w][i]
}

func (s *search) through(at []int) bool {
	for w := range at {
		if at[w] < len(s.programs[w]) {
			return false
		}
	}
	return true
}

func keyOf(at []int, b board) string {
	key := ""
	for _, n := range at {
		key += strconv.Itoa(n) + " "
	}
	for _, n := range b {
		key += strconv.FormatUint(n, 10) + " "
	}
	return key
}

func wantExplained(t *testing.T, programs [][]turns.Op, got [][]uint64, c *cells.Cells) {
	t.Helper()
	if len(got) != len(programs) {
		t.Fatalf("%d lists of %d programs", len(got), len(programs))
	}
	for w := range got {
		if len(got[w]) != len(programs[w]) {
			t.Fatalf("worker %d: %d of %d", w, len(got[w]), len(programs[w]))
		}
	}
	if !explained(programs, got, c.Copy()) {
		t.Fatalf("no picks tell %v of %v, and leave %v", got, programs, c.Copy())
	}
}

// TestTheSearch: what Run tells is always found; what none can tell isn't.
func TestTheSearch(t *testing.T) {
	two := [][]turns.Op{{add(0, 1), add(0, 1)}, {add(0, 1)}}
	for _, x := range []struct {
		got  [][]uint64
		left uint64
		want bool
	}{
		{[][]uint64{{1, 2}, {3}}, 3, true},
		{[][]uint64{{2, 3}, {1}}, 3, true},
		{[][]uint64{{1, 2}, {2}}, 2, false},
		{[][]uint64{{2, 1}, {3}}, 3, false},
		{[][]uint64{{1, 3}, {2}}, 2, false},
	} {
		if explained(two, x.got, []uint64{x.left}) != x.want {
			t.Errorf("%v, %d: not %v", x.got, x.left, x.want)
		}
	}
	rnd := rand.New(rand.NewSource(61))
	for range 500 {
		programs := randomPrograms(rnd, 3, 5, 2)
		b := make(board, 2)
		got := make([][]uint64, 3)
		for _, d := range expected(b, programs, randomPicks(rnd, 15), true) {
			got[d.Worker] = append(got[d.Worker], d.Got)
		}
		if !explained(programs, got, b) {
			t.Fatalf("there are picks that tell %v of %v", got, programs)
		}
	}
}

func TestFreeIsAsBySomePicks(t *testing.T) {
	rnd := rand.New(rand.NewSource(62))
	for range 2000 {
		size := 1 + rnd.Intn(2)
		programs := randomPrograms(rnd, 1+rnd.Intn(4), 6, size)
		c := cellsOf(t, make([]uint64, size)...)
		wantExplained(t, programs, turns.Free(c, programs), c)
	}
}

// TestFreeOfLongPrograms: these go on long enough to meet.
func TestFreeOfLongPrograms(t *testing.T) {
	rnd := rand.New(rand.NewSource(63))
	for range 20 {
		programs := make([][]turns.Op, 4)
		for w := range programs {
			for len(programs[w]) < 300 {
				cell := rnd.Intn(2)
				by := uint64(1 + rnd.Intn(1000))
				programs[w] = append(programs[w], load(cell), turns.Op{Kind: turns.Cas, Cell: cell, Kept: true, B: rnd.Uint64()}, add(cell, by))
			}
		}
		c := cellsOf(t, 0, 0)
		wantExplained(t, programs, turns.Free(c, programs), c)
	}
}

func TestFreeLosesNothing(t *testing.T) {
	const workers, times = 8, 3000
	programs := make([][]turns.Op, workers)
	for w := range programs {
		for range times {
			programs[w] = append(programs[w], add(0, 1), load(1), turns.Op{Kind: turns.Cas, Cell: 1, Kept: true, B: 1})
		}
	}
	c := cellsOf(t, 0, 0)
	got := turns.Free(c, programs)
	seen := make([]bool, workers*times+1)
	won := 0
	for w, l := range got {
		for i, n := range l {
			switch i % 3 {
			case 0:
				if n == 0 || n > workers*times || seen[n] {
					t.Fatalf("worker %d was told %d, as another one was", w, n)
				}
				seen[n] = true
			case 2:
				if n == 1 && l[i-1] == 0 {
					won++
				}
			}
		}
	}
	if won != 1 {
		t.Errorf("%d made 1 of 0", won)
	}
	wantCells(t, "Free", c, workers*times, 1)
}

// TestFreeCasesAreAChain: each number is laid by one alone, so one alone can win from it.
func TestFreeCasesAreAChain(t *testing.T) {
	const workers, times = 8, 5000
	programs := make([][]turns.Op, workers)
	for w := range programs {
		for i := range times {
			programs[w] = append(programs[w], load(0), turns.Op{Kind: turns.Cas, Kept: true, B: uint64(1 + w*times + i)})
		}
	}
	c := cellsOf(t, 0)
	got := turns.Free(c, programs)
	now := make([]uint64, 1+workers*times) // what came behind each number
	won := 0
	for w, l := range got {
		for i := 1; i < len(l); i += 2 {
			if l[i] == 1 {
				if now[l[i-1]] != 0 {
					t.Fatalf("worker %d: two won from %d", w, l[i-1])
				}
				now[l[i-1]] = programs[w][i].B
				won++
			}
		}
	}
	at, long := uint64(0), 0
	for ; now[at] != 0; at = now[at] {
		long++
	}
	if won == 0 || long != won || c.Load(0) != at {
		t.Errorf("%d won, %d of them one behind the other, to %d; left is %d", won, long, at, c.Load(0))
	}
}

// TestFreeOfOwnCells: who has a cell of its own is told what it is told alone.
func TestFreeOfOwnCells(t *testing.T) {
	rnd := rand.New(rand.NewSource(64))
	programs := make([][]turns.Op, 64)
	alone := make([][]uint64, 64)
	b := make(board, 64)
	for w := range programs {
		for range 50 {
			o := randomOp(rnd, 1)
			o.Cell = w
			programs[w] = append(programs[w], o)
			alone[w] = append(alone[w], b.apply(o, keptOf(programs[w], alone[w])))
		}
	}
	c := cellsOf(t, make([]uint64, 64)...)
	got := turns.Free(c, programs)
	if len(got) != 64 {
		t.Fatal(len(got))
	}
	for w := range got {
		if !slices.Equal(got[w], alone[w]) {
			t.Errorf("worker %d: %v, not %v", w, got[w], alone[w])
		}
	}
	wantCells(t, "Free", c, b...)
}

// roomy is l with room behind it, in which something stands.
func roomy[T any](l []T, behind T) []T {
	out := append(slices.Clone(l), behind, behind)
	return out[:len(l)]
}

func TestWhatIsHandedInIsNotChanged(t *testing.T) {
	rnd := rand.New(rand.NewSource(65))
	mark := turns.Op{Kind: turns.Add, A: 77}
	programs := randomPrograms(rnd, 5, 10, 2)
	for w := range programs {
		programs[w] = roomy(programs[w], mark)
	}
	programs = roomy(programs, []turns.Op{mark})
	picks := roomy(randomPicks(rnd, 20), 77)
	whole := func() [][]turns.Op {
		l := copyPrograms(programs[:len(programs)+2])
		for _, p := range programs {
			l = append(l, slices.Clone(p[:len(p)+2]))
		}
		return l
	}
	ahead, picksAhead := whole(), slices.Clone(picks[:22])
	c := cellsOf(t, 0, 0)
	l := turns.Run(c, programs, picks)
	turns.Rest(c, programs, picks)
	got := turns.Free(c, programs)
	dones := roomy(l, turns.Done{Worker: 1, Got: 77})
	donesAhead := slices.Clone(dones[:len(dones)+2])
	turns.Orders(dones, 5)
	if !samePrograms(whole(), ahead) || !slices.Equal(picks[:22], picksAhead) || !slices.Equal(dones[:len(dones)+2], donesAhead) {
		t.Error("what was handed in is another one")
	}
	for w := range got {
		for i := range got[w] {
			got[w][i] = 99
		}
		_ = append(got[w], 99)
	}
	if !samePrograms(whole(), ahead) {
		t.Error("an answer shares memory with what was handed in")
	}
}

// TestAnswersAreNewMemory: what is done to one list is seen in no other.
func TestAnswersAreNewMemory(t *testing.T) {
	programs := [][]turns.Op{{add(0, 1)}, {add(1, 1)}, {add(2, 1)}}
	a := turns.Free(cellsOf(t, 0, 0, 0), programs)
	b := turns.Free(cellsOf(t, 0, 0, 0), programs)
	for w := range a {
		a[w] = append(a[w][:0], 9, 9, 9)
	}
	for w := range b {
		if !slices.Equal(b[w], []uint64{1}) || !slices.Equal(a[w], []uint64{9, 9, 9}) {
			t.Error(a, b)
		}
	}
	l := turns.Rest(cellsOf(t, 0, 0, 0), programs, nil)
	o := turns.Orders(l, 3)
	o[0] = 9
	if again := turns.Orders(l, 3); again[0] != 1 {
		t.Error(again)
	}
}

// TestAgainIsTheSame: nothing is kept from call to call, but what is in the cells.
func TestAgainIsTheSame(t *testing.T) {
	p := [][]turns.Op{{load(0), {Kind: turns.Add, Kept: true}}, {{Kind: turns.Add, Kept: true}}}
	for range 2 {
		l := turns.Run(cellsOf(t, 4), p, []int{0, 1, 0})
		wantDones(t, "Run", l, 0, 0, 4, 1, 0, 4, 0, 1, 8)
	}
}
