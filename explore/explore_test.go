package explore_test

import (
	"slices"
	"testing"

	"fanlight/explore"
)

func TestAllListsOfPicks(t *testing.T) {
	var got [][]int
	n := explore.Each(func(pick func(int) int) {
		var l []int
		for i := range 3 {
			l = append(l, pick(i+1))
		}
		got = append(got, l)
	})
	want := [][]int{{0, 0, 0}, {0, 0, 1}, {0, 0, 2}, {0, 1, 0}, {0, 1, 1}, {0, 1, 2}}
	if n != len(want) || !slices.EqualFunc(got, want, slices.Equal) {
		t.Error(n, got)
	}
}

func TestPicksThatHangOnPicks(t *testing.T) {
	var got [][]int
	n := explore.Each(func(pick func(int) int) {
		l := []int{pick(3)}
		for range l[0] {
			l = append(l, pick(2))
		}
		got = append(got, l)
	})
	want := [][]int{{0}, {1, 0}, {1, 1}, {2, 0, 0}, {2, 0, 1}, {2, 1, 0}, {2, 1, 1}}
	if n != len(want) || !slices.EqualFunc(got, want, slices.Equal) {
		t.Error(n, got)
	}
}

func TestNothingToPick(t *testing.T) {
	if n := explore.Each(func(func(int) int) {}); n != 1 {
		t.Error(n)
	}
	if n := explore.Each(func(pick func(int) int) { pick(0); pick(-1); pick(1) }); n != 1 {
		t.Error(n)
	}
	if n := explore.Each(nil); n != 0 {
		t.Error(n)
	}
}
