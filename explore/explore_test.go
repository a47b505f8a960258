package explore_test

import (
	"slices"
	"testing"

	"fanlight/explore"
)

func TestAllListsOfPicks(t *testing.T) {
	var got [][]int
	n := explore.Each(func(pick func(int) int) {
		var l []int
		for i := range 3 {
			l = append(l, pick(i+1))
		}
		got = append(got, l)
	})
	want := [][]int{{0, 0, 0}, {0, 0, 1}, {0, 0, 2}, {0, 1, 0}, {0, 1, 1}, {0, 1, 2}}
	if n != len(want) || !slices.EqualFunc(got, want, slices.Equal) {
		t.Error(n, got)
	}
}

func TestPicksThatHangOnPicks(t *testing.T) {
	var got [][]int
	n := explore.Each(func(pick func(int) int) {
		l := []int{pick(3)}
		for range l[0] {
			l = append(l, pick(2))
		}
		got = append(got, l)
	})
	want := [][]int{{0}, {1, 0}, {1, 1}, {2, 0, 0}, {2, 0, 1}, {2, 1, 0}, {2, 1, 1}}
	if n != len(want) || !slices.EqualFunc(got, want, slices.Equal) {
		t.Error(n, got)
	}
}

func TestNothingToPick(t *testing.T) {
	if n := explore.Each(func(func(int) int) {}); n != 1 {
		t.Error(n)
	}
	if n := explore.Each(func(pick func(int) int) { pick(0); pick(-1); pick(1) }); n != 1 {
		t.Error(n)
	}
	if n := explore.Each(nil); n != 0 {
		t.Error(n)
	}
}

// turns is all turns of those that have so many steps each to do, with so many switches.
func turns(most int, steps ...int) [][]int {
	var all [][]int
	explore.Each(func(pick func(int) int) {
		left := slices.Clone(steps)
		next := explore.Switches(most, pick)
		var l []int
		for {
			var able []int
			for i, n := range left {
				if n > 0 {
					able = append(able, i)
				}
			}
			i := next(able)
			if i < 0 {
				break
			}
			left[i]--
			l = append(l, i)
		}
		all = append(all, l)
	})
	slices.SortFunc(all, slices.Compare)
	return all
}

func TestSwitches(t *testing.T) {
	for _, x := range []struct {
		most  int
		steps []int
		want  [][]int
	}{
		{0, []int{2, 2}, [][]int{{0, 0, 1, 1}, {1, 1, 0, 0}}},
		{1, []int{2, 2}, [][]int{{0, 0, 1, 1}, {0, 1, 1, 0}, {1, 0, 0, 1}, {1, 1, 0, 0}}},
		{2, []int{2, 2}, [][]int{{0, 0, 1, 1}, {0, 1, 0, 1}, {0, 1, 1, 0}, {1, 0, 0, 1}, {1, 0, 1, 0}, {1, 1, 0, 0}}},
		{0, []int{1, 1, 1}, [][]int{{0, 1, 2}, {0, 2, 1}, {1, 0, 2}, {1, 2, 0}, {2, 0, 1}, {2, 1, 0}}},
		{5, []int{3, 0}, [][]int{{0, 0, 0}}},
		{5, nil, [][]int{nil}},
	} {
		if got := turns(x.most, x.steps...); !slices.EqualFunc(got, x.want, slices.Equal) {
			t.Errorf("%d switches, steps %v: %v", x.most, x.steps, got)
		}
	}
}
