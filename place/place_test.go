package place_test

import (
	"math"
	"math/rand"
	"slices"
	"testing"

	"fanlight/api"
	"fanlight/place"
)

var (
	free1 = place.Word{}
	made1 = place.Word{State: place.Made, Gen: 1, Track: 2, Seen: 4}
	live1 = place.Word{State: place.Live, Gen: 1, Track: 2, Seen: 4}
	seen1 = place.Word{State: place.Live, Gen: 1, Track: 3, Seen: 9}
	gone1 = place.Word{State: place.Gone, Gen: 1, Track: 3, Seen: 9}
	free2 = place.Word{State: place.Free, Gen: 1, Track: 3, Seen: 9}
	made2 = place.Word{State: place.Made, Gen: 2, Seen: 1}
)

// life is what a place goes through, one behind the other.
var life = []place.Word{free1, made1, live1, seen1, gone1, free2, made2}

func mustNew(t *testing.T, n int) *place.Places {
	t.Helper()
	p, e := place.New(n)
	if e != api.OK || p == nil {
		t.Fatalf("New(%d): %v, error %d", n, p, e)
	}
	return p
}

func wantCopy(t *testing.T, what string, p *place.Places, want ...uint64) {
	t.Helper()
	if l := p.Copy(); !slices.Equal(l, want) {
		t.Errorf("%s: %x, not %x", what, l, want)
	}
}

func TestNew(t *testing.T) {
	for _, n := range []int{0, -1, -3072, 3073, 3074, 65536, 1 << 32, 1<<32 + 1, -1 << 32, math.MinInt, math.MaxInt} {
		if p, e := place.New(n); e != api.ErrArg || p != nil {
			t.Errorf("New(%d): %v, error %d", n, p, e)
		}
	}
	for _, n := range []int{1, 2, 3, 1000, 3071, 3072} {
		p := mustNew(t, n)
		wantCopy(t, "New", p, make([]uint64, 2*n)...)
		if p.Size() != n || p.Count(place.Free) != n || p.Count(place.Made) != 0 {
			t.Errorf("New(%d): %d places, %d of them Free", n, p.Size(), p.Count(place.Free))
		}
		for _, i := range []int{0, n - 1} {
			if p.Load(i) != (place.Word{}) || p.Key(i) != (api.Flow{}) {
				t.Errorf("place %d of %d: %+v, %+v", i, n, p.Load(i), p.Key(i))
			}
			if !p.Cas(i, free1, made1) || p.SetKey(i, api.Flow{Proto: 1}) != api.OK {
				t.Errorf("place %d of %d isn't there", i, n)
			}
			if p.Load(i) != made1 || p.Key(i) != (api.Flow{Proto: 1}) {
				t.Errorf("place %d of %d: %+v, %+v", i, n, p.Load(i), p.Key(i))
			}
			if n == 1 {
				break
			}
		}
	}
}

func TestALife(t *testing.T) {
	p := mustNew(t, 3)
	for k, w := range life[1:] {
		if !p.Cas(1, life[k], w) {
			t.Fatalf("%+v doesn't follow %+v", w, life[k])
		}
		if p.Load(1) != w || p.Load(0) != free1 || p.Load(2) != free1 {
			t.Fatalf("%+v", p.Load(1))
		}
		for state := range 4 {
			want := 0
			if w.State == state {
				want++
			}
			if state == place.Free {
				want += 2
			}
			if p.Count(state) != want {
				t.Errorf("%d places are %d, not %d", p.Count(state), state, want)
			}
		}
	}
}

// TestCasFromWhatIsNotThere: now may follow old, but another Word stands there.
func TestCasFromWhatIsNotThere(t *testing.T) {
	for at := range life {
		for k := 1; k < len(life); k++ {
			p := mustNew(t, 1)
			for j := range at {
				p.Cas(0, life[j], life[j+1])
			}
			if won := p.Cas(0, life[k-1], life[k]); won != (k-1 == at) {
				t.Errorf("from %+v, though there is %+v: %v", life[k-1], life[at], won)
			} else if want := life[at]; !won && p.Load(0) != want {
				t.Errorf("it lost, but there is %+v, not %+v", p.Load(0), want)
			}
		}
	}
	p := mustNew(t, 1)
	p.Cas(0, free1, made1)
	p.Cas(0, made1, live1)
	for _, old := range []place.Word{
		{State: place.Live, Gen: 2, Track: 2, Seen: 4}, {State: place.Live, Gen: 1, Track: 1, Seen: 4}, {State: place.Live, Gen: 1, Track: 2, Seen: 3},
	} {
		now := old
		now.State = place.Gone
		if p.Cas(0, old, now) || p.Load(0) != live1 {
			t.Errorf("from %+v: %+v", old, p.Load(0))
		}
	}
}

// TestCasToWhatMayNotFollow: old stands there, but now may not follow it.
func TestCasToWhatMayNotFollow(t *testing.T) {
	for at, old := range life {
		p := mustNew(t, 1)
		for j := range at {
			p.Cas(0, life[j], life[j+1])
		}
		for _, now := range slices.Concat(life, badWords) {
			if may(old, now) && canBe(now) {
				continue
			}
			if p.Cas(0, old, now) || p.Load(0) != old {
				t.Fatalf("from %+v to %+v: %+v", old, now, p.Load(0))
			}
		}
	}
	p := mustNew(t, 1)
	p.Cas(0, free1, made1)
	p.Cas(0, made1, live1)
	if !p.Cas(0, live1, live1) || p.Load(0) != live1 {
		t.Error("Live may follow itself")
	}
	early := live1
	early.Seen--
	if p.Cas(0, live1, early) || p.Load(0) != live1 {
		t.Error("Seen became less")
	}
	// A Word that can't be isn't taken for the one that its number would be cut to.
	for _, old := range badWords {
		for _, state := range []int{place.Free, place.Made, place.Live, place.Gone} {
			now := old
			now.State = state
			q := mustNew(t, 1)
			if q.Cas(0, old, now) || q.Load(0) != free1 {
				t.Errorf("from %+v to %+v: %+v", old, now, q.Load(0))
			}
		}
	}
}

func TestGenComesRound(t *testing.T) {
	p := mustNew(t, 1)
	w := place.Word{}
	for i := 1; i <= 65536; i++ {
		now := place.Word{State: place.Made, Gen: i % 65536, Seen: i}
		if !p.Cas(0, w, now) {
			t.Fatalf("the binding number %d: %+v", i, p.Load(0))
		}
		w = now
		w.State = place.Free
		if !p.Cas(0, now, w) {
			t.Fatalf("it can't be given up: %+v", p.Load(0))
		}
	}
	if p.Load(0) != (place.Word{Seen: 65536}) {
		t.Errorf("%+v", p.Load(0))
	}
}

func TestKeys(t *testing.T) {
	p := mustNew(t, 3)
	for _, x := range []struct {
		f api.Flow
		n uint64
	}{
		{api.Flow{}, 0},
		{api.Flow{Proto: 6, Addr: 7, Port: 8}, 6<<48 + 7<<16 + 8},
		{api.Flow{Proto: 255}, 255 << 48},
		{api.Flow{Addr: 0xFFFFFFFF}, 0xFFFFFFFF0000},
		{api.Flow{Port: 65535}, 65535},
		{api.Flow{Proto: 255, Addr: 0xFFFFFFFF, Port: 65535}, 0xFFFFFFFFFFFFFF},
		{api.Flow{Proto: 17, Addr: 0x0A000001, Port: 0x1234}, 0x11_0A000001_1234},
	} {
		if e := p.SetKey(1, x.f); e != api.OK || p.Key(1) != x.f {
			t.Errorf("%+v: error %d, %+v", x.f, e, p.Key(1))
		}
		wantCopy(t, "SetKey", p, 0, 0, 0, x.n, 0, 0)
	}
	whole := p.Key(1)
	for _, proto := range []int{-1, 256, 65536, 1 << 16, 1 << 32, math.MinInt, math.MaxInt} {
		if e := p.SetKey(1, api.Flow{Proto: proto, Addr: 1, Port: 1}); e != api.ErrArg || p.Key(1) != whole {
			t.Errorf("a protocol %d: error %d, %+v", proto, e, p.Key(1))
		}
	}
}

// TestKeysAndWordsAreEachTheirOwn: a Key stays as its place's Word changes, and the other way round.
func TestKeysAndWordsAreEachTheirOwn(t *testing.T) {
	p := mustNew(t, 2)
	f, g := api.Flow{Proto: 1, Addr: 2, Port: 3}, api.Flow{Proto: 17, Addr: 0xFFFFFFFF, Port: 65535}
	p.SetKey(0, f)
	p.SetKey(1, g)
	for k, w := range life[1:] {
		if !p.Cas(0, life[k], w) || p.Key(0) != f || p.Key(1) != g || p.Load(1) != free1 {
			t.Fatalf("%+v, %+v, %+v", p.Key(0), p.Key(1), p.Load(1))
		}
		// It is told as it is, whatever the state.
		p.SetKey(0, g)
		p.SetKey(0, f)
		if p.Load(0) != w {
			t.Fatalf("%+v, not %+v", p.Load(0), w)
		}
	}
	n, _ := place.Pack(made2)
	wantCopy(t, "all", p, n, 1<<48+2<<16+3, 0, 17<<48+0xFFFFFFFF<<16+65535)
}

func TestCount(t *testing.T) {
	p := mustNew(t, 10)
	for i := range 9 {
		for j := range i % 5 {
			p.Cas(i, life[j], life[j+1])
		}
	}
	// 0 to 8 stand at their life's moment 0, 1, 2, 3, 4, 0, 1, 2, 3; 9 is new.
	for state, want := range []int{3, 2, 4, 1} {
		if p.Count(state) != want {
			t.Errorf("%d are %d, not %d", p.Count(state), state, want)
		}
	}
	for _, state := range []int{-1, 4, 5, 256, 1 << 32, math.MinInt, math.MaxInt} {
		if p.Count(state) != 0 {
			t.Errorf("%d are %d", p.Count(state), state)
		}
	}
}

var noPlaces = []int{-1, -2, -3072, 1 << 31, 1 << 32, -1 << 32, 1 << 62, math.MinInt, math.MinInt / 2, math.MaxInt, math.MaxInt / 2}

// wantNone holds p, which has no place i, against what is answered of such a one.
func wantNone(t *testing.T, p *place.Places, i int) {
	t.Helper()
	ahead := p.Copy()
	if p.Load(i) != (place.Word{}) || p.Key(i) != (api.Flow{}) || p.Cas(i, free1, made1) || p.SetKey(i, api.Flow{Proto: 6, Port: 1}) != api.ErrArg || p.SetKey(i, api.Flow{Proto: -1}) != api.ErrArg {
		t.Errorf("there is a place %d", i)
	}
	if !slices.Equal(p.Copy(), ahead) {
		t.Errorf("place %d changed another one", i)
	}
}

func TestPlacesThatThereAreNot(t *testing.T) {
	for _, n := range []int{1, 2, 3072} {
		p := mustNew(t, n)
		for i := range n {
			p.SetKey(i, api.Flow{Proto: 17, Addr: 1, Port: 1})
		}
		for _, i := range append([]int{n, n + 1, 2 * n}, noPlaces...) {
			wantNone(t, p, i)
		}
		for i := range n {
			p.Cas(i, free1, made1)
		}
		for _, i := range append([]int{n, n + 1, 2 * n}, noPlaces...) {
			wantNone(t, p, i)
		}
	}
}

func TestNil(t *testing.T) {
	for _, p := range []*place.Places{nil, {}} {
		for _, i := range append([]int{0, 1}, noPlaces...) {
			wantNone(t, p, i)
		}
		if p.Size() != 0 || len(p.Copy()) != 0 {
			t.Error("it has places")
		}
		for state := range 4 {
			if p.Count(state) != 0 {
				t.Error("it has places that are", state)
			}
		}
	}
}

func TestAnswersAreNewMemory(t *testing.T) {
	p := mustNew(t, 2)
	p.Cas(0, free1, made1)
	l := p.Copy()
	was := slices.Clone(l)
	p.Cas(0, made1, live1)
	if !slices.Equal(l, was) {
		t.Error("what was told changed")
	}
	l[0], l[1], l[2] = 1, 2, 3
	_ = append(l[:1], 5, 6)
	if p.Load(0) != live1 || p.Key(0) != (api.Flow{}) || p.Load(1) != free1 {
		t.Error(p.Copy())
	}
}

// someWord is one near w, of which some can't be.
func someWord(rnd *rand.Rand, w place.Word) place.Word {
	for range rnd.Intn(3) {
		switch rnd.Intn(5) {
		case 0:
			w.State = rnd.Intn(6) - 1
		case 1:
			w.Gen += rnd.Intn(3) - 1
		case 2:
			w.Track += rnd.Intn(5) - 2
		case 3:
			w.Seen += rnd.Intn(7) - 3
		case 4:
			w.State, w.Gen = place.Made, (w.Gen+1)%65536
		}
	}
	return w
}

// TestAgainstPlainWords: by whatever Cas a place goes on as the table has it, and nowhere else.
func TestAgainstPlainWords(t *testing.T) {
	rnd := rand.New(rand.NewSource(102))
	var went [4][4]int
	for range 300 {
		n := 1 + rnd.Intn(3)
		p, plain := mustNew(t, n), make([]place.Word, n)
		for range 1000 {
			i := rnd.Intn(n+2) - 1
			there := place.Word{}
			if i >= 0 && i < n {
				there = plain[i]
			}
			old := there
			if rnd.Intn(4) == 0 {
				old = someWord(rnd, old)
			}
			now := someWord(rnd, old)
			want := i >= 0 && i < n && old == there && canBe(old) && canBe(now) && may(old, now)
			if got := p.Cas(i, old, now); got != want {
				t.Fatalf("Cas(%d, %+v, %+v): %v, there is %+v", i, old, now, got, there)
			}
			if want {
				went[old.State][now.State]++
				plain[i] = now
			}
			for j, w := range plain {
				if p.Load(j) != w {
					t.Fatalf("place %d: %+v, not %+v", j, p.Load(j), w)
				}
			}
		}
	}
	for _, x := range [][2]int{{0, 1}, {1, 2}, {1, 0}, {2, 2}, {2, 3}, {3, 0}} {
		if went[x[0]][x[1]] < 100 {
			t.Errorf("hardly any went from %d to %d: %v", x[0], x[1], went)
		}
	}
}
