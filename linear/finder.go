package linear

import (
	"cmp"
	"math"
	"slices"

	"fanlight/history"
	"fanlight/model"
)

// set is a set of entries' numbers: bit i is number i. So few may be looked at that they fit.
type set uint16

func (s set) has(i int) bool     { return s>>i&1 == 1 }
func (s set) with(i int) set     { return s | 1<<i }
func (s set) holds(all set) bool { return all&^s == 0 }

// finder looks for an order of entries, by way of all that could be one. What led nowhere is kept, with what stood in the model then: another way that comes to the same isn't gone once more.
type finder struct {
	list  []history.Entry
	tries []int // in which order they are tried
	must  set   // those that are done
	ahead []set // of each: those that were Ahead of it
	order []int // as far as it is found
	dead  map[set][][]model.Binding
}

// newFinder tries who was done first ahead of others: most often that is right.
func newFinder(l []history.Entry) *finder {
	f := &finder{list: l, ahead: make([]set, len(l)), dead: map[set][][]model.Binding{}}
	for i, x := range l {
		f.tries = append(f.tries, i)
		if isDone(x) {
			f.must = f.must.with(i)
		}
		for k, y := range l {
			if history.Ahead(y, x) {
				f.ahead[i] = f.ahead[i].with(k)
			}
		}
	}
	slices.SortStableFunc(f.tries, func(a, b int) int { return cmp.Compare(over(l[a]), over(l[b])) })
	return f
}

// over is the moment at which an entry is done, at last.
func over(x history.Entry) int {
	if !isDone(x) {
		return math.MaxInt
	}
	return x.End
}

// from tells whether all others can follow in some order, when those in stand are in the order, and n is what the model is behind them.
func (f *finder) from(n *model.Nat, stand set) bool {
	if stand.holds(f.must) {
		return true
	}
	was := n.Bindings()
	if f.isDead(stand, was) {
		return false
	}
	for _, i := range f.tries {
		if !stand.has(i) && stand.holds(f.ahead[i]) && f.follow(n, stand, i, was) {
			return true
		}
	}
	f.dead[stand] = append(f.dead[stand], was)
	return false
}

// follow tells whether i can be the next one, and all others can follow it.
func (f *finder) follow(n *model.Nat, stand set, i int, was []model.Binding) bool {
	m := n.Copy()
	if !tells(m, f.list[i]) {
		return false
	}
	// Who isn't done needn't stand in the order: if it changes nothing, it is of no use here.
	if !isDone(f.list[i]) && slices.Equal(m.Bindings(), was) {
		return false
	}
	f.order = append(f.order, i)
	if f.from(m, stand.with(i)) {
		return true
	}
	f.order = f.order[:len(f.order)-1]
	return false
}

func (f *finder) isDead(stand set, now []model.Binding) bool {
	return slices.ContainsFunc(f.dead[stand], func(was []model.Binding) bool { return slices.Equal(was, now) })
}
