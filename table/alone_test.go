package table_test

import (
	"math/rand"
	"slices"
	"testing"

	"fanlight/api"
	"fanlight/place"
	"fanlight/table"
)

// other is the bucket in which place i may stand, too.
func other(p *place.Places, buckets, i, in int) int {
	first, second := table.Spots(p.Key(i), buckets)
	return first + second - in
}

// room tells whether there is room for f: in its first bucket; or in the other one of one of those in it; or in the other one of one of those in that one.
func room(p *place.Places, x *table.Table, f api.Flow) bool {
	all := x.All()
	first, _ := table.Spots(f, len(all))
	free := func(k int) bool { return len(all[k]) < 4 }
	if free(first) {
		return true
	}
	for _, i := range all[first] {
		k := other(p, len(all), i, first)
		if free(k) || slices.ContainsFunc(all[k], func(j int) bool { return free(other(p, len(all), j, k)) }) {
			return true
		}
	}
	return false
}

// keeper is what a table should have, when one does all: of each flow its place. Gone are those that aren't dropped yet.
type keeper struct {
	t      *testing.T
	p      *place.Places
	x      *table.Table
	places map[api.Flow]int
	gone   []int
	free   []int
	full   int
	deep   int
}

func newKeeper(t *testing.T, places, buckets int) *keeper {
	p, x := mustNew(t, places, buckets)
	k := &keeper{t: t, p: p, x: x, places: map[api.Flow]int{}}
	for i := range places {
		k.free = append(k.free, i)
	}
	return k
}

// put is held against whether there is room, as well those count that are Gone and stand there yet.
func (k *keeper) put(f api.Flow) {
	k.t.Helper()
	if len(k.free) == 0 {
		return
	}
	want := api.OK
	has, busy := k.places[f]
	switch {
	case busy:
		want = api.ErrBusy
	case !room(k.p, k.x, f):
		want = api.ErrFull
		k.full++
	}
	i := k.free[0]
	k.p.SetKey(i, f)
	become(k.t, k.p, i, place.Made)
	before, places := k.x.All(), k.p.Copy()
	s := k.x.Put(f, i)
	finish(k.t, k.x, s)
	n, w := s.Found()
	if s.End() != want || busy && (n != has || w != k.p.Load(has)) || !busy && n != -1 {
		k.t.Fatalf("Put of %v: %d, %d, %v, not %d; buckets %v", f, s.End(), n, w, want, before)
	}
	if !slices.Equal(places, k.p.Copy()) {
		k.t.Fatal("Put changed the places")
	}
	k.note(before, f, i, want)
	if want != api.OK {
		become(k.t, k.p, i, place.Free)
		return
	}
	k.free = k.free[1:]
	k.places[f] = i
	become(k.t, k.p, i, place.Live)
}

// note holds where all stand now against where they stood: just i came, into its first bucket, and at most two went, to their other ones.
func (k *keeper) note(before [][]int, f api.Flow, i int, end api.Errno) {
	k.t.Helper()
	first, _ := table.Spots(f, len(before))
	now := k.x.All()
	if slices.Contains(now[first], i) != (end == api.OK) {
		k.t.Fatalf("place %d, error %d, stands in %v", i, end, now)
	}
	gone := 0
	for b, l := range before {
		for _, j := range l {
			if slices.Contains(now[b], j) {
				continue
			}
			gone++
			if !slices.Contains(now[other(k.p, len(now), j, b)], j) {
				k.t.Fatalf("place %d is lost: %v, then %v", j, before, now)
			}
		}
	}
	if gone > 2 || gone > 0 && (end != api.OK || len(before[first]) < 4) {
		k.t.Fatalf("%d went away: %v, then %v, error %d", gone, before, now, end)
	}
	if gone == 2 {
		k.deep++
	}
}

// end lets the place of f be Gone.
func (k *keeper) end(f api.Flow) {
	i, ok := k.places[f]
	if !ok {
		return
	}
	become(k.t, k.p, i, place.Gone)
	delete(k.places, f)
	k.gone = append(k.gone, i)
}

// sweep drops those that are Gone.
func (k *keeper) sweep() {
	k.t.Helper()
	for _, i := range k.gone {
		places := k.p.Copy()
		s := k.x.Drop(k.p.Key(i), i)
		finish(k.t, k.x, s)
		if s.End() != api.OK || !slices.Equal(places, k.p.Copy()) {
			k.t.Fatal("Drop:", s.End())
		}
		if slices.ContainsFunc(k.x.All(), func(l []int) bool { return slices.Contains(l, i) }) {
			k.t.Fatal("it was dropped, and stands there yet:", i, k.x.All())
		}
		become(k.t, k.p, i, place.Free)
		k.free = append(k.free, i)
	}
	k.gone = nil
}

func (k *keeper) find(f api.Flow) {
	k.t.Helper()
	i, ok := k.places[f]
	if !ok {
		i = -1
	}
	cells := k.x.Copy()
	wantFind(k.t, k.p, k.x, f, i)
	if !slices.Equal(cells, k.x.Copy()) {
		k.t.Fatal("Find changed the table")
	}
}

// stand holds the buckets against what should stand there, once.
func (k *keeper) stand() {
	k.t.Helper()
	var want []int
	for _, i := range k.places {
		want = append(want, i)
	}
	want = append(want, k.gone...)
	slices.Sort(want)
	var got []int
	for b, l := range k.x.All() {
		if !slices.IsSorted(l) {
			k.t.Fatal("a bucket doesn't rise:", l)
		}
		for _, i := range l {
			if first, second := table.Spots(k.p.Key(i), len(k.x.All())); b != first && b != second {
				k.t.Fatal("it isn't in one of its buckets:", i, b)
			}
		}
		got = append(got, l...)
	}
	slices.Sort(got)
	if !slices.Equal(got, want) {
		k.t.Fatalf("there stand %v, not %v", got, want)
	}
}

func TestAloneAgainstPlainWords(t *testing.T) {
	rnd := rand.New(rand.NewSource(116))
	full, deep := 0, 0
	for range 60 {
		buckets := 2 << rnd.Intn(4)
		k := newKeeper(t, 4*buckets+6, buckets)
		flows := make([]api.Flow, 6*buckets)
		for i := range flows {
			flows[i] = someFlow(rnd)
		}
		for range 200 {
			f := flows[rnd.Intn(len(flows))]
			switch n := rnd.Intn(20); {
			case n < 11:
				k.put(f)
			case n < 15:
				k.find(f)
			case n < 18:
				k.end(f)
			case n == 18:
				k.sweep()
			default:
				k.stand()
			}
		}
		k.sweep()
		k.stand()
		full, deep = full+k.full, deep+k.deep
	}
	if full < 100 || deep < 100 {
		t.Errorf("%d times there was no room, %d times two went: hardly any", full, deep)
	}
}

func TestFiveFlowsOfOneBucket(t *testing.T) {
	k := newKeeper(t, 32, 4)
	for n := range 4 {
		k.put(flowOf(t, 4, 3, 1, n))
		k.put(flowOf(t, 4, 1, 3, n))
	}
	k.put(flowOf(t, 4, 3, 1, 4))
	if k.full != 1 {
		t.Error("there was room:", k.x.All())
	}
	k.end(flowOf(t, 4, 3, 1, 2))
	k.sweep()
	k.put(flowOf(t, 4, 3, 2, 0))
	k.put(flowOf(t, 4, 3, 1, 4))
	if k.full != 1 || len(k.places) != 9 {
		t.Error("there was no room:", k.x.All())
	}
	for f := range k.places {
		k.find(f)
	}
}

// TestNoMoreThanTwoGo: where a third one would have to go there is no room.
func TestNoMoreThanTwoGo(t *testing.T) {
	k := newKeeper(t, 32, 8)
	for n := range 4 {
		k.put(flowOf(t, 8, 0, 1, n))
		k.put(flowOf(t, 8, 1, 2, n))
		k.put(flowOf(t, 8, 2, 3, n))
	}
	k.put(flowOf(t, 8, 0, 1, 4))
	if k.full != 1 {
		t.Error("three went:", k.x.All())
	}
	k.put(flowOf(t, 8, 1, 2, 4))
	if k.full != 1 || k.deep != 1 {
		t.Error("two didn't go:", k.x.All())
	}
}

// TestOneThatIsGoneMayGo: it stands in its bucket till it is dropped, like others.
func TestOneThatIsGoneMayGo(t *testing.T) {
	k := newKeeper(t, 16, 4)
	for n := range 4 {
		k.put(flowOf(t, 4, 1, 0, n))
	}
	for n := range 3 {
		k.put(flowOf(t, 4, 0, 1, n))
	}
	goes := flowOf(t, 4, 0, 2, 0)
	k.put(goes)
	k.end(goes)
	k.put(flowOf(t, 4, 0, 1, 9))
	if k.full != 0 || len(k.x.All()[2]) != 1 {
		t.Error("it didn't go:", k.x.All())
	}
	k.find(goes)
	k.sweep()
	k.stand()
}

// TestOneThatWasDroppedMayGoAgain: when it was made anew it is like others.
func TestOneThatWasDroppedMayGoAgain(t *testing.T) {
	p, x := mustNew(t, 8, 2)
	for i := range 4 {
		put(t, p, x, flowOf(t, 2, 0, 1, i), i)
	}
	for i := range 4 {
		drop(t, p, x, i)
		put(t, p, x, flowOf(t, 2, 0, 1, i), i)
	}
	for i := 4; i < 8; i++ {
		f := flowOf(t, 2, 0, 1, i)
		if e := put(t, p, x, f, i); e != api.OK {
			t.Errorf("the %dth: %d, %v", i, e, x.All())
		}
		wantFind(t, p, x, f, i)
	}
}

// TestCountsComeRound: a bucket's count of changes is 16 bits, and doesn't touch its places.
func TestCountsComeRound(t *testing.T) {
	p, x := mustNew(t, 8, 2)
	for i := range 3 {
		put(t, p, x, flowOf(t, 2, 0, 1, i), i)
	}
	f := flowOf(t, 2, 0, 1, 3)
	for range 33000 {
		p.SetKey(7, f)
		become(t, p, 7, place.Made)
		s := x.Put(f, 7)
		finish(t, x, s)
		become(t, p, 7, place.Live)
		become(t, p, 7, place.Gone)
		finish(t, x, x.Drop(f, 7))
		become(t, p, 7, place.Free)
	}
	if all := x.All(); !slices.Equal(all[0], []int{0, 1, 2}) || len(all[1]) != 0 {
		t.Error(all)
	}
	for i := range 3 {
		wantFind(t, p, x, flowOf(t, 2, 0, 1, i), i)
	}
}

// TestAgainstTheRules: whoever doesn't keep to the rules of use may get anything, but Do ends, nothing panics, and nobody else's places are changed.
func TestAgainstTheRules(t *testing.T) {
	rnd := rand.New(rand.NewSource(5))
	for range 300 {
		buckets := 2 << rnd.Intn(2)
		p, x := mustNew(t, 6, buckets)
		var steps []*table.Step
		for range 150 {
			f := api.Flow{Proto: 17, Port: uint16(rnd.Intn(8))}
			i := rnd.Intn(8) - 1
			switch rnd.Intn(12) {
			case 0:
				steps = append(steps, x.Find(f))
			case 1, 2, 3:
				steps = append(steps, x.Put(f, i))
			case 4:
				steps = append(steps, x.Drop(f, i))
			case 5:
				p.SetKey(i, f)
			case 6:
				w := p.Load(i)
				now := w
				now.State = (w.State + 1) % 4
				if now.State == place.Made {
					now.Gen++
				}
				p.Cas(i, w, now)
			default:
				if len(steps) > 0 {
					places := p.Copy()
					x.Do(steps[rnd.Intn(len(steps))])
					if !slices.Equal(places, p.Copy()) {
						t.Fatal("Do changed the places")
					}
				}
			}
		}
		for _, s := range steps {
			finish(t, x, s)
		}
	}
}
