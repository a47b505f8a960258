// Package explore goes through all ways in which something that chooses may go. The tests of layers on which many work lean on it: what is promised of all turns is held against all turns of something small.
package explore

import "slices"

// choice is which one was picked, of how many.
type choice struct{ at, of int }

// Each calls run once for each list of answers that its picks may get: how many there were. A pick of n is 0 to n - 1; run picks in the same way whenever it gets the same answers.
func Each(run func(pick func(n int) int)) int {
	if run == nil {
		return 0
	}
	var path []choice
	for runs := 1; ; runs++ {
		depth := 0
		run(func(n int) int {
			if depth == len(path) {
				path = append(path, choice{of: max(n, 1)})
			}
			depth++
			return path[depth-1].at
		})
		path = next(path[:depth])
		if len(path) == 0 {
			return runs
		}
	}
}

// next is the path behind this one, of those that begin alike the one whose last choice differs; none, if this was the last one.
func next(path []choice) []choice {
	for len(path) > 0 {
		last := &path[len(path)-1]
		if last.at++; last.at < last.of {
			return path
		}
		path = path[:len(path)-1]
	}
	return nil
}

// Switches tells who does the next step, of those that are able to: one goes on as long as it is able, but for so many times at most that another one does. Each goes through all ways of that. -1: nobody is able.
func Switches(most int, pick func(n int) int) func(able []int) int {
	who := -1
	return func(able []int) int {
		k := slices.Index(able, who)
		switch {
		case len(able) == 0:
			who = -1
		case k < 0:
			who = able[pick(len(able))]
		case most > 0 && len(able) > 1:
			// A pick of 0: it goes on.
			if by := pick(len(able)); by > 0 {
				who = able[(k+by)%len(able)]
				most--
			}
		}
		return who
	}
}
