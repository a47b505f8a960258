package place_test

import (
	"math/rand"
	"sync"
	"testing"

	"fanlight/api"
	"fanlight/place"
)

// move is a Cas that won.
type move struct {
	place    int
	old, now place.Word
}

// goOn is a Word that may follow w.
func goOn(rnd *rand.Rand, w place.Word) place.Word {
	switch {
	case w.State == place.Free:
		return place.Word{State: place.Made, Gen: (w.Gen + 1) % 65536, Track: rnd.Intn(8), Seen: rnd.Intn(100)}
	case w.State == place.Made && rnd.Intn(3) == 0:
		w.State = place.Free
	case w.State == place.Made:
		w.State = place.Live
	case w.State == place.Live && rnd.Intn(3) > 0:
		w.Seen += 1 + rnd.Intn(5)
		w.Track = rnd.Intn(8)
	case w.State == place.Live:
		w.State = place.Gone
	default:
		w.State = place.Free
	}
	return w
}

// TestCasesAtOneTime: those that won stand one behind the other. Each Word is left as often as one came to it, but for the first and the last one.
func TestCasesAtOneTime(t *testing.T) {
	const workers, places, times = 8, 3, 3000
	p := mustNew(t, places)
	moves := make([][]move, workers)
	var all sync.WaitGroup
	for w := range workers {
		all.Add(1)
		go func() {
			defer all.Done()
			rnd := rand.New(rand.NewSource(int64(w)))
			for range times {
				i := rnd.Intn(places)
				old := p.Load(i)
				now := goOn(rnd, old)
				if p.Cas(i, old, now) {
					moves[w] = append(moves[w], move{i, old, now})
				}
			}
		}()
	}
	all.Wait()
	balance := map[move]int{}
	at := func(i int, w place.Word) move { return move{place: i, now: w} }
	won := 0
	for _, l := range moves {
		for _, m := range l {
			balance[at(m.place, m.old)]--
			balance[at(m.place, m.now)]++
			won++
		}
	}
	for i := range places {
		balance[at(i, place.Word{})]++
		balance[at(i, p.Load(i))]--
	}
	for m, n := range balance {
		if n != 0 {
			t.Fatalf("place %d came to %+v %d times more than it left it", m.place, m.now, n)
		}
	}
	if won < 1000 {
		t.Errorf("hardly any Cas won: %d", won)
	}
}

// TestKeysAtOneTime: a Key is there whole.
func TestKeysAtOneTime(t *testing.T) {
	const workers, times = 8, 3000
	p := mustNew(t, 1)
	var all sync.WaitGroup
	for w := range workers {
		all.Add(1)
		go func() {
			defer all.Done()
			mine := api.Flow{Proto: w, Addr: uint32(w) * 0x01010101, Port: uint16(w) * 0x0101}
			for range times {
				p.SetKey(0, mine)
				f := p.Key(0)
				if f.Proto >= workers || f.Addr != uint32(f.Proto)*0x01010101 || f.Port != uint16(f.Proto)*0x0101 {
					t.Errorf("%+v was never set", f)
					return
				}
			}
		}()
	}
	all.Wait()
}
