package history

import "slices"

// Ahead: was one done ahead of the other one's beginning? Right: can entries be a history? Width: how many went on at one time at most.
func Ahead(a, b Entry) bool { return isDone(a) && a.End < b.Begin }

func Right(l []Entry) bool {
	for _, x := range l {
		if x.Begin < 1 || isDone(x) && x.End <= x.Begin || !isDone(x) && x.Ends {
			return false
		}
	}
	return true
}

func Width(l []Entry) int {
	if !Right(l) {
		return 0
	}
	var begins, ends []int
	for _, x := range l {
		begins = append(begins, x.Begin)
		if isDone(x) {
			ends = append(ends, x.End)
		}
	}
	slices.Sort(begins)
	slices.Sort(ends)
	return widest(begins, ends)
}

// widest is how many have begun, and haven't ended, at most. That many do when somebody begins: who ends at that moment goes on no more.
func widest(begins, ends []int) int {
	most, over := 0, 0
	for i, now := range begins {
		for over < len(ends) && ends[over] <= now {
			over++
		}
		most = max(most, i+1-over)
	}
	return most
}

func isDone(x Entry) bool { return x.End != undone }
