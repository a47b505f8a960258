package wheel_test

import (
	"math"
	"math/rand"
	"slices"
	"testing"

	"fanlight/api"
	"fanlight/wheel"
)

const maxTick = 1<<32 - 1

func want(t *testing.T, what string, got []wheel.Item, want ...wheel.Item) {
	t.Helper()
	if !slices.Equal(got, want) {
		t.Errorf("%s: %v, not %v", what, got, want)
	}
}

func wantNext(t *testing.T, w *wheel.Wheel, at int, ok bool) {
	t.Helper()
	if n, is := w.Next(); n != at || is != ok {
		t.Errorf("Next: %d, %v, not %d, %v", n, is, at, ok)
	}
}

func wantAt(t *testing.T, w *wheel.Wheel, now, size int) {
	t.Helper()
	if w.Now() != now || w.Len() != size {
		t.Errorf("it is at %d, with %d, not at %d, with %d", w.Now(), w.Len(), now, size)
	}
}

func add(t *testing.T, w *wheel.Wheel, l ...wheel.Item) {
	t.Helper()
	for _, i := range l {
		if e := w.Add(i.Id, i.At); e != api.OK {
			t.Errorf("Add of %v: %d", i, e)
		}
	}
}

func TestExample(t *testing.T) {
	w := wheel.New()
	add(t, w, wheel.Item{Id: 7, At: 100}, wheel.Item{Id: 8, At: 70})
	want(t, "Due(69)", w.Due(69))
	want(t, "Due(5000)", w.Due(5000), wheel.Item{Id: 8, At: 70}, wheel.Item{Id: 7, At: 100})
	wantAt(t, w, 5000, 0)
}

func TestNewAndNil(t *testing.T) {
	for name, w := range map[string]*wheel.Wheel{"new": wheel.New(), "zero": {}, "nil": nil} {
		wantAt(t, w, 0, 0)
		wantNext(t, w, 0, false)
		want(t, name, w.All())
		want(t, name, w.Due(0))
		want(t, name, w.Due(-1))
	}
	var none *wheel.Wheel
	if none.Add(1, 1) != api.ErrArg {
		t.Error("something came into nil")
	}
	want(t, "nil", none.Due(9))
	wantAt(t, none, 0, 0)
	if wheel.New() == wheel.New() {
		t.Error("two are one")
	}
}

func TestWhatCantBe(t *testing.T) {
	w := wheel.New()
	for _, at := range []int{-1, -1 << 32, maxTick + 1, 1 << 33, 1 << 36, math.MinInt, math.MaxInt} {
		if e := w.Add(3, at); e != api.ErrArg {
			t.Errorf("Add(3, %d): %d", at, e)
		}
	}
	wantAt(t, w, 0, 0)
	add(t, w, wheel.Item{Id: 3, At: 0}, wheel.Item{Id: 4, At: maxTick})
	wantAt(t, w, 0, 2)
}

func TestAnyId(t *testing.T) {
	w := wheel.New()
	l := []wheel.Item{{math.MinInt, 5}, {math.MaxInt, 5}, {-1, 5}, {0, 5}, {0, 5}, {0, 4}}
	add(t, w, l...)
	want(t, "All", w.All(), wheel.Item{Id: 0, At: 4}, l[0], l[1], l[2], l[3], l[4])
	want(t, "Due", w.Due(5), wheel.Item{Id: 0, At: 4}, l[0], l[1], l[2], l[3], l[4])
	want(t, "Due again", w.Due(5))
}

// TestTheWheelsTick: it only goes on, and no further than MaxTick.
func TestTheWheelsTick(t *testing.T) {
	w := wheel.New()
	for _, x := range []struct{ to, now int }{
		{-5, 0}, {0, 0}, {3, 3}, {2, 3}, {3, 3}, {math.MinInt, 3}, {64, 64}, {63, 64}, {4096, 4096},
		{1 << 31, 1 << 31}, {5, 1 << 31}, {maxTick - 1, maxTick - 1}, {maxTick + 1, maxTick}, {math.MaxInt, maxTick}, {7, maxTick},
	} {
		w.Due(x.to)
		wantAt(t, w, x.now, 0)
	}
	add(t, w, wheel.Item{Id: 1, At: maxTick}, wheel.Item{Id: 2, At: 0})
	want(t, "Due(-1)", w.Due(-1), wheel.Item{Id: 2, At: 0}, wheel.Item{Id: 1, At: maxTick})
}

// TestAheadOfNow: what comes in when its tick is over, or is now, is told by the next Due, whatever that is handed.
func TestAheadOfNow(t *testing.T) {
	w := wheel.New()
	w.Due(1000)
	add(t, w, wheel.Item{Id: 1, At: 1000}, wheel.Item{Id: 2, At: 999}, wheel.Item{Id: 3, At: 0}, wheel.Item{Id: 4, At: 999}, wheel.Item{Id: 5, At: 1001})
	wantNext(t, w, 0, true)
	want(t, "All", w.All(), wheel.Item{Id: 3, At: 0}, wheel.Item{Id: 2, At: 999}, wheel.Item{Id: 4, At: 999}, wheel.Item{Id: 1, At: 1000}, wheel.Item{Id: 5, At: 1001})
	want(t, "Due(0)", w.Due(0), wheel.Item{Id: 3, At: 0}, wheel.Item{Id: 2, At: 999}, wheel.Item{Id: 4, At: 999}, wheel.Item{Id: 1, At: 1000})
	wantNext(t, w, 1001, true)
	wantAt(t, w, 1000, 1)
	add(t, w, wheel.Item{Id: 6, At: 1001}, wheel.Item{Id: 7, At: 3})
	want(t, "Due(1001)", w.Due(1001), wheel.Item{Id: 7, At: 3}, wheel.Item{Id: 5, At: 1001}, wheel.Item{Id: 6, At: 1001})
}

// edges is ticks round the numbers at which a level's slots go over into the next level.
func edges() []int {
	l := []int{0, 1, maxTick - 1, maxTick}
	for _, n := range []int{6, 12, 18, 24, 30} {
		l = append(l, 1<<n-2, 1<<n-1, 1<<n, 1<<n+1, 2<<n-1, 2<<n, 3<<n+1)
	}
	slices.Sort(l)
	return l
}

// TestJustAtItsTick: by a Due of one tick ahead it isn't told, by one of its tick it is, from wherever the wheel stood.
func TestJustAtItsTick(t *testing.T) {
	for _, at := range edges() {
		for _, now := range edges() {
			w := wheel.New()
			w.Due(now)
			add(t, w, wheel.Item{Id: 9, At: at})
			wantNext(t, w, at, true)
			if at > now {
				want(t, "a tick ahead", w.Due(at-1))
				wantNext(t, w, at, true)
			}
			wantAt(t, w, max(now, at-1), 1)
			want(t, "at its tick", w.Due(at), wheel.Item{Id: 9, At: at})
			wantAt(t, w, max(now, at), 0)
			wantNext(t, w, 0, false)
		}
	}
}

// TestOneAtStaysInOrder: those of one tick come in when the wheel is ever nearer to it.
func TestOneAtStaysInOrder(t *testing.T) {
	for _, at := range edges() {
		w := wheel.New()
		var l []wheel.Item
		for _, now := range edges() {
			if now >= at {
				break
			}
			w.Due(now)
			i := wheel.Item{Id: len(l), At: at}
			l = append(l, i)
			add(t, w, i)
			want(t, "All", w.All(), l...)
		}
		want(t, "Due", w.Due(at), l...)
	}
}

func TestAnswersAreNewMemory(t *testing.T) {
	w := wheel.New()
	var l []wheel.Item
	for i := range 200 {
		l = append(l, wheel.Item{Id: i, At: i})
	}
	add(t, w, l...)
	spoil := func(l []wheel.Item) {
		for i := range l[:cap(l)] {
			l[:cap(l)][i] = wheel.Item{Id: -7, At: -7}
		}
	}
	spoil(w.All())
	want(t, "All", w.All(), l...)
	first := w.Due(99)
	kept := slices.Clone(first)
	spoil(w.All())
	add(t, w, wheel.Item{Id: 1, At: 5}, wheel.Item{Id: 2, At: 6}, wheel.Item{Id: 3, At: 150})
	want(t, "what was told", first, kept...)
	spoil(first)
	spoil(w.All())
	rest := slices.Concat([]wheel.Item{{Id: 1, At: 5}, {Id: 2, At: 6}}, l[100:151], []wheel.Item{{Id: 3, At: 150}}, l[151:])
	want(t, "Due", w.Due(500), rest...)
	add(t, w, wheel.Item{Id: 8, At: 7}, wheel.Item{Id: 9, At: 6})
	spoil(w.All())
	want(t, "of some that are due already", w.Due(500), wheel.Item{Id: 9, At: 6}, wheel.Item{Id: 8, At: 7})
}

// plain is what a wheel should be: its Items as they came in.
type plain struct {
	now   int
	items []wheel.Item
}

func (p *plain) sorted(keep func(wheel.Item) bool) []wheel.Item {
	var l []wheel.Item
	for _, i := range p.items {
		if keep(i) {
			// Behind all that aren't later: those of one At stay as they came in.
			k := len(l)
			for k > 0 && l[k-1].At > i.At {
				k--
			}
			l = slices.Insert(l, k, i)
		}
	}
	return l
}

func (p *plain) due(now int) []wheel.Item {
	p.now = max(p.now, min(now, maxTick))
	isDue := func(i wheel.Item) bool { return i.At <= p.now }
	l := p.sorted(isDue)
	p.items = slices.DeleteFunc(p.items, isDue)
	return l
}

func (p *plain) check(t *testing.T, w *wheel.Wheel) {
	t.Helper()
	l := p.sorted(func(wheel.Item) bool { return true })
	want(t, "All", w.All(), l...)
	wantAt(t, w, p.now, len(l))
	if len(l) == 0 {
		wantNext(t, w, 0, false)
	} else {
		wantNext(t, w, l[0].At, true)
	}
}

// someTick is near to now, or somewhere of the size that a level has.
func someTick(rnd *rand.Rand, now int) int {
	switch rnd.Intn(8) {
	case 0:
		return rnd.Intn(1<<33) - 1<<30
	case 1:
		return now - rnd.Intn(200)
	case 2:
		return edges()[rnd.Intn(len(edges()))]
	}
	return now + rnd.Intn(1<<(2+rnd.Intn(30)))
}

func TestAgainstPlainLists(t *testing.T) {
	rnd := rand.New(rand.NewSource(12))
	told := 0
	for range 300 {
		w, p := wheel.New(), &plain{}
		small := rnd.Intn(2) == 0
		for range 120 {
			at := someTick(rnd, p.now)
			if small {
				at = p.now + rnd.Intn(300) - 20
			}
			if rnd.Intn(3) > 0 {
				ok := at >= 0 && at <= maxTick
				i := wheel.Item{Id: rnd.Intn(5), At: at}
				if e := w.Add(i.Id, i.At); (e == api.OK) != ok || e != api.OK && e != api.ErrArg {
					t.Fatalf("Add at %d: %d", at, e)
				}
				if ok {
					p.items = append(p.items, i)
				}
			} else {
				l := p.due(at)
				told += len(l)
				want(t, "Due", w.Due(at), l...)
			}
			p.check(t, w)
			if t.Failed() {
				t.FailNow()
			}
		}
	}
	if told < 1000 {
		t.Error("hardly any were told:", told)
	}
}
