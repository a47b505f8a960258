package history_test

import (
	"math"
	"math/rand"
	"slices"
	"testing"

	"fanlight/history"
)

func frame(begin, end int) history.Entry { return history.Entry{Begin: begin, End: end} }

func gone(begin, end int) history.Entry { return history.Entry{Begin: begin, End: end, Ends: true} }

func TestAhead(t *testing.T) {
	for _, x := range []struct {
		a, b history.Entry
		want bool
	}{
		{frame(1, 3), frame(4, 5), true},
		{frame(1, 3), frame(4, -1), true},
		{frame(1, 3), frame(3, 5), false},
		{frame(1, 3), frame(2, 5), false},
		{frame(4, 5), frame(1, 3), false},
		{frame(1, -1), frame(9, 10), false},
		{frame(1, -1), frame(9, -1), false},
		{frame(1, 3), frame(1, 3), false},
		{gone(1, 3), frame(4, 5), true},
		{frame(1, 3), gone(4, 5), true},
		{gone(1, 3), gone(3, 5), false},
		// Those that can't be Right are held against each other all the same.
		{gone(1, -1), frame(9, 10), false},
		{frame(9, 3), frame(4, 2), true},
		{frame(1, -2), frame(1, 2), true},
		{frame(1, 0), frame(0, 2), false},
		{frame(0, 0), frame(1, 2), true},
		{frame(1, -1), frame(math.MaxInt, -1), false},
		{frame(1, math.MinInt), frame(math.MaxInt, -1), true},
		{frame(1, math.MaxInt), frame(math.MaxInt, -1), false},
	} {
		if got := history.Ahead(x.a, x.b); got != x.want {
			t.Errorf("Ahead(%+v, %+v) is %v", x.a, x.b, got)
		}
	}
}

func TestRight(t *testing.T) {
	for _, x := range []struct {
		l    []history.Entry
		want bool
	}{
		{nil, true},
		{[]history.Entry{}, true},
		{[]history.Entry{frame(1, 2)}, true},
		{[]history.Entry{frame(1, -1)}, true},
		{[]history.Entry{gone(1, 2)}, true},
		{[]history.Entry{gone(1, -1)}, false},
		{[]history.Entry{frame(1, 1)}, false},
		{[]history.Entry{frame(2, 1)}, false},
		{[]history.Entry{gone(5, 5)}, false},
		{[]history.Entry{frame(0, 2)}, false},
		{[]history.Entry{frame(0, -1)}, false},
		{[]history.Entry{frame(-1, 2)}, false},
		{[]history.Entry{frame(-3, -1)}, false},
		{[]history.Entry{frame(-3, -2)}, false},
		{[]history.Entry{frame(1, -2)}, false},
		{[]history.Entry{frame(1, 0)}, false},
		{[]history.Entry{frame(math.MinInt, math.MaxInt)}, false},
		{[]history.Entry{frame(1, math.MaxInt), frame(math.MaxInt, -1)}, true},
		{[]history.Entry{frame(1, 2), frame(1, 2), gone(1, 2)}, true},
		{[]history.Entry{frame(1, 2), frame(3, 4), frame(4, 4)}, false},
		{[]history.Entry{gone(7, -1), frame(1, 2), frame(3, 4)}, false},
	} {
		if got := history.Right(x.l); got != x.want {
			t.Errorf("Right(%+v) is %v", x.l, got)
		}
	}
}

func TestWidth(t *testing.T) {
	for _, x := range []struct {
		l    []history.Entry
		want int
	}{
		{nil, 0},
		{[]history.Entry{frame(5, 9)}, 1},
		{[]history.Entry{frame(5, -1)}, 1},
		{[]history.Entry{frame(1, 3), frame(3, 4), frame(4, 9)}, 1},
		{[]history.Entry{frame(1, 4), frame(3, 5), frame(4, 9)}, 2},
		{[]history.Entry{frame(4, 9), frame(3, 5), frame(1, 5)}, 3},
		{[]history.Entry{frame(1, 3), gone(2, 5), frame(4, 9)}, 2},
		{[]history.Entry{frame(1, -1), frame(8, 9), frame(10, 11)}, 2},
		{[]history.Entry{frame(1, -1), frame(math.MaxInt, -1)}, 2},
		{[]history.Entry{frame(1, math.MaxInt), frame(math.MaxInt, -1)}, 1},
		{[]history.Entry{frame(2, 3), frame(2, 3), frame(2, 3), frame(2, 3)}, 4},
		{[]history.Entry{gone(1, 9), gone(1, 8), gone(1, 7)}, 3},
		// Of those that aren't Right there is none.
		{[]history.Entry{frame(1, 3), frame(2, 2)}, 0},
		{[]history.Entry{frame(0, 3)}, 0},
		{[]history.Entry{frame(1, 3), gone(2, -1)}, 0},
	} {
		if got := history.Width(x.l); got != x.want {
			t.Errorf("Width(%+v) is %d, not %d", x.l, got, x.want)
		}
	}
}

// TestRandomWidths counts who goes on at each moment.
func TestRandomWidths(t *testing.T) {
	rnd := rand.New(rand.NewSource(18))
	for range 3000 {
		l := make([]history.Entry, rnd.Intn(12))
		for i := range l {
			l[i] = frame(1+rnd.Intn(12), -1)
			if rnd.Intn(4) > 0 {
				l[i].End, l[i].Ends = l[i].Begin+1+rnd.Intn(6), rnd.Intn(3) == 0
			}
		}
		was := slices.Clone(l)
		want := 0
		for now := range 30 {
			n := 0
			for _, x := range l {
				if x.Begin <= now && (now < x.End || x.End == -1) {
					n++
				}
			}
			want = max(want, n)
		}
		if got := history.Width(l); got != want || !history.Right(l) {
			t.Fatalf("Width(%+v) is %d, not %d", l, got, want)
		}
		if !slices.EqualFunc(l, was, sameEntry) {
			t.Fatal("the list was changed")
		}
	}
}

// TestManyEntries has more than may be looked at one by one for each of the others.
func TestManyEntries(t *testing.T) {
	l := make([]history.Entry, 200000)
	for i := range l {
		l[i] = frame(1+i, 1+i+1000)
	}
	if got := history.Width(l); got != 1000 {
		t.Error(got)
	}
}
