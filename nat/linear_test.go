package nat_test

import (
	"bytes"
	"slices"
	"strconv"
	"strings"

	"fanlight/api"
	"fanlight/model"
	"fanlight/plan"
)

// entry is a frame, or a binding's end, from when to when (end -1: it isn't done).
type entry struct {
	begin, end  int
	ends        bool
	call        model.Call
	answer      model.Answer
	proto, port int
}

// finder looks for an order of entries by which the model tells just what was told. The masks of the ways that led nowhere are kept, with what the model was then.
type finder struct {
	list []entry
	dead map[string]struct{}
}

// inOrder tells whether there is one: P16.2.
func inOrder(c plan.Config, l []entry) bool {
	if len(l) > 64 {
		panic("too many entries")
	}
	n, e := model.New(c)
	if e != api.OK {
		panic(e)
	}
	l = slices.Clone(l)
	// Who was done first is tried first: most often that is right.
	slices.SortStableFunc(l, func(a, b entry) int { return last(a) - last(b) })
	f := &finder{list: l, dead: map[string]struct{}{}}
	return f.from(n, 0)
}

func last(x entry) int {
	if x.end < 0 {
		return 1 << 40
	}
	return x.end
}

func (f *finder) from(n *model.Nat, done uint64) bool {
	if f.complete(done) {
		return true
	}
	key := keyOf(n, done)
	if _, ok := f.dead[key]; ok {
		return false
	}
	for i, x := range f.list {
		if done>>i&1 == 1 || !f.mayCome(i, done) {
			continue
		}
		m := n.Copy()
		if tells(m, x) && f.from(m, done|1<<i) {
			return true
		}
	}
	f.dead[key] = struct{}{}
	return false
}

func (f *finder) complete(done uint64) bool {
	for i, x := range f.list {
		if x.end >= 0 && done>>i&1 == 0 {
			return false
		}
	}
	return true
}

// mayCome tells whether nobody who isn't done was over ahead of i's beginning.
func (f *finder) mayCome(i int, done uint64) bool {
	for j, x := range f.list {
		if done>>j&1 == 0 && x.end >= 0 && x.end < f.list[i].begin {
			return false
		}
	}
	return true
}

func tells(n *model.Nat, x entry) bool {
	if x.ends {
		return n.Expire(x.proto, x.port, x.call.Tick)
	}
	a := n.Step(x.call)
	return x.end < 0 || a.Err == x.answer.Err && bytes.Equal(a.Frame, x.answer.Frame)
}

func keyOf(n *model.Nat, done uint64) string {
	var b strings.Builder
	b.WriteString(strconv.FormatUint(done, 16))
	for _, x := range n.Bindings() {
		for _, v := range []int{x.Flow.Proto, int(x.Flow.Addr), int(x.Flow.Port), x.Port, x.Track, x.Seen} {
			b.WriteByte(' ')
			b.WriteString(strconv.Itoa(v))
		}
	}
	return b.String()
}
