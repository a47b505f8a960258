package place_test

import (
	"math"
	"math/rand"
	"testing"

	"fanlight/api"
	"fanlight/place"
)

const maxSeen = 1<<32 - 1

// badWords are those of which one part can't be.
var badWords = []place.Word{
	{State: -1}, {State: 4}, {State: 256}, {State: 1 << 32}, {State: math.MinInt}, {State: math.MaxInt},
	{Gen: -1}, {Gen: 65536}, {Gen: 1 << 32}, {Gen: math.MinInt}, {Gen: math.MaxInt},
	{Track: -1}, {Track: 8}, {Track: 256}, {Track: 1 << 32}, {Track: math.MinInt}, {Track: math.MaxInt},
	{Seen: -1}, {Seen: 1 << 32}, {Seen: math.MinInt}, {Seen: math.MaxInt},
	{State: 2, Gen: 5, Track: 9, Seen: 7},
}

func TestPack(t *testing.T) {
	for _, x := range []struct {
		w place.Word
		n uint64
	}{
		{place.Word{}, 0},
		{place.Word{State: place.Live, Gen: 5, Track: 1, Seen: 120}, 120*4294967296 + 5*65536 + 256 + 2},
		{place.Word{State: place.Made}, 1},
		{place.Word{State: place.Live}, 2},
		{place.Word{State: place.Gone}, 3},
		{place.Word{Track: 1}, 0x100},
		{place.Word{Track: 7}, 0x700},
		{place.Word{Gen: 1}, 0x10000},
		{place.Word{Gen: 65535}, 0xFFFF0000},
		{place.Word{Seen: 1}, 0x100000000},
		{place.Word{Seen: maxSeen}, 0xFFFFFFFF00000000},
		{place.Word{State: 3, Gen: 65535, Track: 7, Seen: maxSeen}, 0xFFFFFFFFFFFF0703},
	} {
		if n, e := place.Pack(x.w); n != x.n || e != api.OK {
			t.Errorf("Pack of %+v: %x, error %d, not %x", x.w, n, e, x.n)
		}
		if w := place.Unpack(x.n); w != x.w {
			t.Errorf("Unpack of %x: %+v, not %+v", x.n, w, x.w)
		}
	}
	for _, w := range badWords {
		if n, e := place.Pack(w); n != 0 || e != api.ErrArg {
			t.Errorf("Pack of %+v: %x, error %d", w, n, e)
		}
	}
}

// TestUnpackLooksAtItsBitsAlone: whatever the others are.
func TestUnpackLooksAtItsBitsAlone(t *testing.T) {
	const others = 0xF8FC
	for _, n := range []uint64{0, others, math.MaxUint64, 0xFFFFFFFFFFFF0703, 0x00000078000501FE, 1 << 2, 1 << 7, 1 << 11, 1 << 15} {
		w := place.Unpack(n)
		if m, e := place.Pack(w); e != api.OK || m != n&^others {
			t.Errorf("Unpack of %x: %+v", n, w)
		}
		if place.Unpack(n|others) != w || place.Unpack(n&^others) != w {
			t.Errorf("Unpack of %x looks at others", n)
		}
	}
	rnd := rand.New(rand.NewSource(10))
	for range 10000 {
		n := rnd.Uint64()
		want := place.Word{State: int(n % 4), Track: int(n / 256 % 8), Gen: int(n / 65536 % 65536), Seen: int(n / 4294967296)}
		if w := place.Unpack(n); w != want {
			t.Fatalf("Unpack of %x: %+v, not %+v", n, w, want)
		}
		if m, e := place.Pack(want); e != api.OK || m != n&^others {
			t.Fatalf("Pack of %+v: %x, error %d", want, m, e)
		}
	}
}

// TestMayGoesByTheTable goes through all pairs of Words of some parts, edges among them.
func TestMayGoesByTheTable(t *testing.T) {
	var words []place.Word
	for state := range 4 {
		for _, gen := range []int{0, 1, 2, 65534, 65535} {
			for _, track := range []int{0, 1, 7} {
				for _, seen := range []int{0, 5, maxSeen} {
					words = append(words, place.Word{State: state, Gen: gen, Track: track, Seen: seen})
				}
			}
		}
	}
	counts := [4][4]int{}
	for _, old := range words {
		for _, now := range words {
			want := may(old, now)
			if place.May(old, now) != want {
				t.Fatalf("May %+v follow %+v? Not %v", now, old, !want)
			}
			if want {
				counts[old.State][now.State]++
			}
		}
	}
	// Of 3 tracks and 3 times each; 4 of the 5 Gens have the next one among them.
	const all, next = 5 * 9, 4 * 9 * 9
	want := [4][4]int{{0, next, 0, 0}, {all, 0, all, 0}, {0, 0, 5 * 9 * 6, all}, {all, 0, 0, 0}}
	if counts != want {
		t.Errorf("so many may follow: %v, not %v", counts, want)
	}
}

// may is the chapter's table, row by row.
func may(old, now place.Word) bool {
	gen, track, seen := now.Gen == old.Gen, now.Track == old.Track, now.Seen == old.Seen
	same := gen && track && seen
	switch [2]int{old.State, now.State} {
	case [2]int{place.Free, place.Made}:
		return now.Gen == (old.Gen+1)%65536
	case [2]int{place.Made, place.Live}, [2]int{place.Made, place.Free}:
		return same
	case [2]int{place.Live, place.Live}:
		return gen && now.Seen >= old.Seen
	case [2]int{place.Live, place.Gone}, [2]int{place.Gone, place.Free}:
		return same
	}
	return false
}

func TestMayOfSomeWords(t *testing.T) {
	w := func(state, gen, track, seen int) place.Word {
		return place.Word{State: state, Gen: gen, Track: track, Seen: seen}
	}
	for _, x := range []struct {
		old, now place.Word
		may      bool
	}{
		{w(0, 0, 0, 0), w(1, 1, 0, 0), true},
		{w(0, 7, 3, 50), w(1, 8, 5, 10), true}, // a new binding may have another time and track
		{w(0, 65535, 0, 0), w(1, 0, 0, 0), true},
		{w(0, 65535, 0, 0), w(1, 65535, 0, 0), false},
		{w(0, 65535, 0, 0), w(1, 65536, 0, 0), false},
		{w(0, 0, 0, 0), w(1, 0, 0, 0), false},
		{w(0, 0, 0, 0), w(1, 2, 0, 0), false},
		{w(0, 1, 0, 0), w(1, 0, 0, 0), false},
		{w(0, 0, 0, 0), w(0, 0, 0, 0), false},
		{w(0, 0, 0, 0), w(2, 1, 0, 0), false},
		{w(0, 0, 0, 0), w(2, 0, 0, 0), false},
		{w(0, 0, 0, 0), w(3, 0, 0, 0), false},
		{w(1, 3, 2, 9), w(2, 3, 2, 9), true},
		{w(1, 3, 2, 9), w(0, 3, 2, 9), true},
		{w(1, 3, 2, 9), w(1, 3, 2, 9), false},
		{w(1, 3, 2, 9), w(3, 3, 2, 9), false},
		{w(1, 3, 2, 9), w(2, 4, 2, 9), false},
		{w(1, 3, 2, 9), w(2, 3, 3, 9), false},
		{w(1, 3, 2, 9), w(2, 3, 2, 10), false},
		{w(1, 3, 2, 9), w(0, 3, 2, 10), false},
		{w(1, 3, 2, 9), w(0, 4, 2, 9), false},
		{w(2, 3, 2, 9), w(2, 3, 2, 9), true},
		{w(2, 3, 2, 9), w(2, 3, 5, 9), true},
		{w(2, 3, 2, 9), w(2, 3, 0, maxSeen), true},
		{w(2, 3, 2, 9), w(2, 3, 2, 8), false},
		{w(2, 3, 2, 9), w(2, 4, 2, 9), false},
		{w(2, 3, 2, 9), w(3, 3, 2, 9), true},
		{w(2, 3, 2, 9), w(3, 3, 2, 10), false},
		{w(2, 3, 2, 9), w(3, 3, 1, 9), false},
		{w(2, 3, 2, 9), w(3, 4, 2, 9), false},
		{w(2, 3, 2, 9), w(0, 3, 2, 9), false},
		{w(2, 3, 2, 9), w(1, 3, 2, 9), false},
		{w(3, 3, 2, 9), w(0, 3, 2, 9), true},
		{w(3, 3, 2, 9), w(0, 4, 2, 9), false},
		{w(3, 3, 2, 9), w(0, 3, 0, 9), false},
		{w(3, 3, 2, 9), w(0, 3, 2, 0), false},
		{w(3, 3, 2, 9), w(1, 4, 2, 9), false},
		{w(3, 3, 2, 9), w(2, 3, 2, 9), false},
		{w(3, 3, 2, 9), w(3, 3, 2, 9), false},
	} {
		if place.May(x.old, x.now) != x.may {
			t.Errorf("May %+v follow %+v? Not %v", x.now, x.old, !x.may)
		}
	}
}

// TestMayOfWhatCannotBe: though all else is as it should be.
func TestMayOfWhatCannotBe(t *testing.T) {
	for _, bad := range badWords {
		for state := -1; state <= 4; state++ {
			other := bad
			other.State = state
			for _, gen := range []int{bad.Gen - 1, bad.Gen, bad.Gen + 1} {
				other.Gen = gen
				if canBe(other) && canBe(bad) {
					continue
				}
				if place.May(bad, other) || place.May(other, bad) {
					t.Errorf("%+v and %+v may follow", bad, other)
				}
			}
		}
	}
	live := place.Word{State: place.Live, Gen: 1}
	late := place.Word{State: place.Live, Gen: 1, Seen: 1 << 32}
	strange := place.Word{State: place.Live, Gen: 1, Track: 8}
	if place.May(live, late) || place.May(late, late) || place.May(live, strange) || place.May(strange, live) {
		t.Error("what can't be may follow, or be followed")
	}
}

func canBe(w place.Word) bool {
	_, e := place.Pack(w)
	return e == api.OK
}
