package table_test

import (
	"math"
	"math/big"
	"math/rand"
	"slices"
	"testing"

	"fanlight/api"
	"fanlight/place"
	"fanlight/table"
)

// allSizes is how many buckets there may be.
func allSizes() []int { return []int{2, 4, 8, 16, 32, 64, 128, 256, 512, 1024} }

func mustNew(t *testing.T, places, buckets int) (*place.Places, *table.Table) {
	t.Helper()
	p, e := place.New(places)
	if e != api.OK {
		t.Fatal(e)
	}
	x, e := table.New(p, buckets)
	if e != api.OK || x == nil {
		t.Fatalf("New(%d, %d): %v, error %d", places, buckets, x, e)
	}
	return p, x
}

// finish does s, alone: how many Dos it took.
func finish(t *testing.T, x *table.Table, s *table.Step) int {
	t.Helper()
	for n := 1; n <= 400; n++ {
		if x.Do(s) {
			return n
		}
		if i, w := s.Found(); s.End() != api.ErrState || i != -1 || w != (place.Word{}) {
			t.Fatalf("ahead of its end: %d, found %d, %v", s.End(), i, w)
		}
	}
	t.Fatal("it has no end")
	return 0
}

func someFlow(rnd *rand.Rand) api.Flow {
	return api.Flow{Proto: []int{api.Icmp, api.Tcp, api.Udp}[rnd.Intn(3)], Addr: rnd.Uint32(), Port: uint16(rnd.Int())}
}

// flowOf is the k-th flow whose buckets are these.
func flowOf(t *testing.T, buckets, first, second, k int) api.Flow {
	t.Helper()
	for port := range 1 << 16 {
		f := api.Flow{Proto: api.Tcp, Addr: 7, Port: uint16(port)}
		if a, b := table.Spots(f, buckets); a != first || b != second {
			continue
		}
		if k == 0 {
			return f
		}
		k--
	}
	t.Fatal("there is no such flow")
	return api.Flow{}
}

func become(t *testing.T, p *place.Places, i, state int) place.Word {
	t.Helper()
	w := p.Load(i)
	now := w
	now.State = state
	if state == place.Made {
		now.Gen++
	}
	if !p.Cas(i, w, now) {
		t.Fatalf("place %d of %v can't become %d", i, w, state)
	}
	return now
}

// put makes a place and puts it, alone; it is Live then, or Free again.
func put(t *testing.T, p *place.Places, x *table.Table, f api.Flow, i int) api.Errno {
	t.Helper()
	p.SetKey(i, f)
	become(t, p, i, place.Made)
	s := x.Put(f, i)
	finish(t, x, s)
	if s.End() == api.OK {
		become(t, p, i, place.Live)
	} else {
		become(t, p, i, place.Free)
	}
	return s.End()
}

// drop lets a place be Gone and drops it, alone.
func drop(t *testing.T, p *place.Places, x *table.Table, i int) {
	t.Helper()
	become(t, p, i, place.Gone)
	s := x.Drop(p.Key(i), i)
	finish(t, x, s)
	if s.End() != api.OK {
		t.Errorf("Drop of %d: %d", i, s.End())
	}
	become(t, p, i, place.Free)
}

func wantFind(t *testing.T, p *place.Places, x *table.Table, f api.Flow, place int) {
	t.Helper()
	s := x.Find(f)
	finish(t, x, s)
	i, w := s.Found()
	if place < 0 && (s.End() != api.ErrNone || i != -1) || place >= 0 && (s.End() != api.OK || i != place || w != p.Load(i)) {
		t.Errorf("Find of %v: %d, place %d, %v; not %d", f, s.End(), i, w, place)
	}
}

func TestSpotsOfSome(t *testing.T) {
	for _, x := range []struct {
		f                      api.Flow
		buckets, first, second int
	}{
		{api.Flow{}, 1024, 0, 1}, {api.Flow{}, 2, 0, 1}, {api.Flow{Port: 1}, 4, 0, 1},
		{api.Flow{Proto: 17, Addr: 0x0A000001, Port: 5}, 2, 0, 1},
		{api.Flow{Proto: 17, Addr: 0x0A000001, Port: 5}, 8, 0, 2},
		{api.Flow{Proto: 17, Addr: 0x0A000001, Port: 5}, 1024, 304, 264},
		{api.Flow{Proto: 6, Addr: 0xC0000201, Port: 65535}, 64, 28, 43},
		{api.Flow{Proto: 1, Addr: 0xFFFFFFFF}, 1024, 974, 919},
		{api.Flow{Proto: 255, Port: 1}, 16, 6, 10},
		{api.Flow{Proto: 65535, Addr: 0xFFFFFFFF, Port: 65535}, 512, 395, 398},
		{api.Flow{Proto: 65536 + 17, Addr: 0x0A000001, Port: 5}, 1024, 304, 264},
		{api.Flow{Proto: -1, Addr: 0xFFFFFFFF, Port: 65535}, 512, 395, 398},
	} {
		if a, b := table.Spots(x.f, x.buckets); a != x.first || b != x.second {
			t.Errorf("Spots of %v, %d: %d, %d", x.f, x.buckets, a, b)
		}
	}
	for _, n := range []int{0, 1, 3, 5, 6, 7, 9, 12, 1000, 1023, 1025, 2048, 65536, 1 << 32, 1 << 62, -1, -2, -4, -1024, math.MinInt, math.MaxInt} {
		if a, b := table.Spots(api.Flow{Proto: 17, Addr: 0x0A000001, Port: 5}, n); a != 0 || b != 0 {
			t.Errorf("Spots of %d buckets: %d, %d", n, a, b)
		}
	}
}

// plainSpots goes by the chapter's words, in numbers without an end.
func plainSpots(f api.Flow, buckets int) (int, int) {
	num := func(n uint64) *big.Int { return new(big.Int).SetUint64(n) }
	all, half := new(big.Int).Lsh(num(1), 64), new(big.Int).Lsh(num(1), 32)
	proto := new(big.Int).Mod(big.NewInt(int64(f.Proto)), num(65536))
	n := new(big.Int).Lsh(proto, 48)
	n.Add(n, new(big.Int).Lsh(num(uint64(f.Addr)), 16))
	n.Add(n, num(uint64(f.Port)))
	x := new(big.Int).Mul(n, num(0x9E3779B97F4A7C15))
	x.Mod(x, all)
	y := new(big.Int).Mul(new(big.Int).Xor(x, new(big.Int).Div(x, half)), num(0xBF58476D1CE4E5B9))
	y.Mod(y, all)
	h := new(big.Int).Xor(y, new(big.Int).Div(y, half))
	first := new(big.Int).Mod(h, big.NewInt(int64(buckets)))
	second := new(big.Int).Mod(new(big.Int).Div(h, half), big.NewInt(int64(buckets-1)))
	second.Add(second, num(1)).Add(second, first)
	second.Mod(second, big.NewInt(int64(buckets)))
	return int(first.Int64()), int(second.Int64())
}

func TestSpotsAgainstPlainNumbers(t *testing.T) {
	rnd := rand.New(rand.NewSource(1))
	for range 3000 {
		f := someFlow(rnd)
		if rnd.Intn(3) == 0 {
			f.Proto = []int{-1, 0, 255, 256, 65535, 65536, -65537, math.MinInt, math.MaxInt, rnd.Int(), -rnd.Int()}[rnd.Intn(11)]
		}
		for _, n := range allSizes() {
			a, b := table.Spots(f, n)
			if c, d := plainSpots(f, n); a != c || b != d || a == b {
				t.Fatalf("Spots of %v, %d: %d, %d, not %d, %d", f, n, a, b, c, d)
			}
		}
	}
}

func TestNew(t *testing.T) {
	p, _ := place.New(5)
	for _, n := range []int{0, 1, 3, 6, 1023, 1025, 2048, 1 << 32, 1<<32 + 2, -2, math.MinInt, math.MaxInt} {
		if x, e := table.New(p, n); e != api.ErrArg || x != nil {
			t.Errorf("New of %d buckets: %v, %d", n, x, e)
		}
	}
	if x, e := table.New(nil, 4); e != api.ErrArg || x != nil {
		t.Error("New of nil:", x, e)
	}
	for _, n := range allSizes() {
		_, x := mustNew(t, 3072, n)
		if all := x.All(); len(all) != n || slices.ContainsFunc(all, func(l []int) bool { return len(l) > 0 }) {
			t.Errorf("All of %d empty buckets: %v", n, all)
		}
	}
}

func TestNothing(t *testing.T) {
	p, made := mustNew(t, 4, 2)
	f := api.Flow{Proto: 6, Port: 1}
	p.SetKey(0, f)
	become(t, p, 0, place.Made)
	s := made.Put(f, 0)
	for name, x := range map[string]*table.Table{"nil": nil, "zero": {}} {
		if x.Find(f) != nil || x.Put(f, 0) != nil || x.Drop(f, 0) != nil {
			t.Error(name, "begins something")
		}
		if len(x.All()) != 0 || len(x.Copy()) != 0 {
			t.Error(name, x.All(), x.Copy())
		}
		if !x.Do(nil) || !x.Do(&table.Step{}) || !x.Do(s) || s.End() != api.ErrState {
			t.Error(name, "does something")
		}
	}
	if !made.Do(nil) || !made.Do(&table.Step{}) {
		t.Error("a Step that nobody began isn't done")
	}
	for _, s := range []*table.Step{nil, {}} {
		if i, w := s.Found(); s.End() != api.ErrState || i != -1 || w != (place.Word{}) {
			t.Error(s.End(), i, w)
		}
	}
	none, e := table.New(&place.Places{}, 2)
	if e != api.OK {
		t.Error("no places:", e)
	}
	wantFind(t, &place.Places{}, none, f, -1)
}

func TestAStepsEnd(t *testing.T) {
	p, x := mustNew(t, 4, 2)
	f := api.Flow{Proto: 17, Addr: 3, Port: 4}
	begun := []*table.Step{x.Find(f), x.Put(f, 0), x.Drop(f, 0)}
	for _, s := range begun {
		if i, w := s.Found(); s.End() != api.ErrState || i != -1 || w != (place.Word{}) {
			t.Error("it has an end ahead of its steps:", s.End(), i, w)
		}
	}
	p.SetKey(2, f)
	made := become(t, p, 2, place.Made)
	s := x.Put(f, 2)
	finish(t, x, s)
	if i, w := s.Found(); s.End() != api.OK || i != -1 || w != (place.Word{}) {
		t.Error("Put:", s.End(), i, w)
	}
	cells := x.Copy()
	for range 3 {
		if !x.Do(s) || !slices.Equal(x.Copy(), cells) || s.End() != api.OK {
			t.Error("it goes on behind its end")
		}
	}
	wantFind(t, p, x, f, 2)
	become(t, p, 2, place.Live)
	p.SetKey(3, f)
	become(t, p, 3, place.Made)
	s = x.Put(f, 3)
	finish(t, x, s)
	made.State = place.Live
	if i, w := s.Found(); s.End() != api.ErrBusy || i != 2 || w != made {
		t.Error("another Put:", s.End(), i, w)
	}
	wantFind(t, p, x, f, 2)
	become(t, p, 2, place.Gone)
	wantFind(t, p, x, f, -1)
	s = x.Drop(f, 2)
	finish(t, x, s)
	if i, w := s.Found(); s.End() != api.OK || i != -1 || w != (place.Word{}) {
		t.Error("Drop:", s.End(), i, w)
	}
	if all := x.All(); len(all[0])+len(all[1]) != 0 {
		t.Error(all)
	}
}

// TestAnotherTableDoes: a Step goes by the table at which it began.
func TestAnotherTableDoes(t *testing.T) {
	p, x := mustNew(t, 4, 2)
	_, other := mustNew(t, 4, 8)
	f := api.Flow{Proto: 17, Port: 9}
	p.SetKey(1, f)
	become(t, p, 1, place.Made)
	s := x.Put(f, 1)
	finish(t, other, s)
	wantFind(t, p, x, f, 1)
	if slices.ContainsFunc(other.All(), func(l []int) bool { return len(l) > 0 }) {
		t.Error(other.All())
	}
}

// TestKeysThatDiffer: just the same flow is found, among those of the same buckets.
func TestKeysThatDiffer(t *testing.T) {
	p, x := mustNew(t, 4, 2)
	f := api.Flow{Proto: 17, Addr: 1, Port: 1}
	put(t, p, x, f, 0)
	for _, g := range []api.Flow{{Proto: 6, Addr: 1, Port: 1}, {Proto: 17, Addr: 2, Port: 1}, {Proto: 17, Addr: 1, Port: 2}, {Proto: 65536 + 17, Addr: 1, Port: 1}, {Proto: 17 - 65536, Addr: 1, Port: 1}} {
		wantFind(t, p, x, g, -1)
	}
	wantFind(t, p, x, f, 0)
}

func TestPlacesThatThereArent(t *testing.T) {
	p, x := mustNew(t, 4, 2)
	f := api.Flow{Proto: 17, Port: 9}
	put(t, p, x, f, 0)
	cells, places := x.Copy(), p.Copy()
	for _, i := range []int{-1, -2, 4, 5, 3071, 3072, 4095, 4096, 1 << 32, math.MinInt, math.MaxInt} {
		for _, s := range []*table.Step{x.Put(f, i), x.Put(api.Flow{Proto: 1}, i), x.Drop(f, i)} {
			if n := finish(t, x, s); n != 1 || s.End() == api.ErrState {
				t.Error(i, n, s.End())
			}
		}
		if x.Put(f, i).End() != api.ErrState {
			t.Error("ahead of its end")
		}
	}
	if !slices.Equal(x.Copy(), cells) || !slices.Equal(p.Copy(), places) {
		t.Error("something was changed")
	}
}

func TestAnswersAreNewMemory(t *testing.T) {
	p, x := mustNew(t, 12, 4)
	for i := range 12 {
		put(t, p, x, api.Flow{Proto: 17, Port: uint16(i)}, i)
	}
	cells, all := x.Copy(), x.All()
	for i := range cells {
		x.Copy()[i] = 1
	}
	for k := range all {
		l := x.All()
		for i := range l[k] {
			l[k][i] = 99
		}
		_ = append(l[k][:0], 7, 7, 7, 7)
		l[k] = nil
	}
	if !slices.Equal(cells, x.Copy()) || !slices.EqualFunc(all, x.All(), slices.Equal) {
		t.Error(x.Copy(), x.All())
	}
	one := x.All()
	for k := range one {
		_ = append(one[k], -5, -5, -5, -5)
	}
	if !slices.EqualFunc(all, one, slices.Equal) {
		t.Error("two lists of one answer share memory:", one)
	}
}

// TestCellsShareNothing: two tables over the same places are each their own.
func TestCellsShareNothing(t *testing.T) {
	p, x := mustNew(t, 4, 2)
	y, _ := table.New(p, 2)
	f := api.Flow{Proto: 17, Port: 1}
	put(t, p, x, f, 0)
	wantFind(t, p, y, f, -1)
	wantFind(t, p, x, f, 0)
}

// TestTheGreatest fills the greatest table with all places that may be.
func TestTheGreatest(t *testing.T) {
	rnd := rand.New(rand.NewSource(3))
	p, x := mustNew(t, 3072, 1024)
	places := map[api.Flow]int{}
	for i := range 3072 {
		f := someFlow(rnd)
		if _, ok := places[f]; !ok && put(t, p, x, f, i) == api.OK {
			places[f] = i
		}
	}
	if len(places) < 2900 {
		t.Error("hardly any have room:", len(places))
	}
	for f, i := range places {
		wantFind(t, p, x, f, i)
		wantFind(t, p, x, api.Flow{Proto: 99, Addr: f.Addr, Port: f.Port}, -1)
	}
	for f, i := range places {
		drop(t, p, x, i)
		wantFind(t, p, x, f, -1)
	}
	for k, l := range x.All() {
		if len(l) > 0 {
			t.Fatal("bucket", k, "has", l)
		}
	}
}
