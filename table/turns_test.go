package table

import (
	"math/rand"
	"slices"
	"strings"
	"testing"

	"fanlight/api"
)

func find(f api.Flow) deed       { return deed{kind: finds, flow: f} }
func put(f api.Flow, i int) deed { return deed{kind: puts, flow: f, place: i} }
func drop(f api.Flow) deed       { return deed{kind: drops, flow: f} }
func touch(f api.Flow) deed      { return deed{kind: touches, flow: f} }

// Flows of a table of two buckets, by their first one, and of one of four, by both.
func of2(first, k int) api.Flow         { return kin(2, first, 1-first, k) }
func of4(first, second, k int) api.Flow { return kin(4, first, second, k) }

// crowd has four places in bucket 0 of two, and none in the other one. Who comes lets place 0 go there.
func crowd(t *testing.T) *scene {
	t.Helper()
	s := newScene(t, 2, 12)
	for k := range 4 {
		s.alone(put(of2(0, k), k))
	}
	return s
}

// away has place 0 in the second of its two buckets, which is full; there is room for one in its first one. Who comes lets place 0 go back.
func away(t *testing.T) *scene {
	t.Helper()
	s := crowd(t).alone(put(of2(0, 4), 4))
	for k := range 3 {
		s.alone(put(of2(1, k), 5+k))
	}
	s.alone(drop(of2(0, 2)))
	if all := s.table.All(); !slices.Equal(all[0], []int{1, 3, 4}) || !slices.Equal(all[1], []int{0, 5, 6, 7}) {
		t.Fatal(all)
	}
	return s
}

// deep has two full buckets of four: those in bucket 0 may go to bucket 1 alone, and of those in that one just place 7 may go, to bucket 2.
func deep(t *testing.T) *scene {
	t.Helper()
	s := newScene(t, 4, 16)
	for k := range 4 {
		s.alone(put(of4(0, 1, k), k))
	}
	for k := range 3 {
		s.alone(put(of4(1, 0, k), 4+k))
	}
	return s.alone(put(of4(1, 2, 0), 7))
}

// crossed has no room but for one, in bucket 2; one of each of buckets 0 and 1 may go there, the others of these to each other's bucket.
func crossed(t *testing.T) *scene {
	t.Helper()
	s := newScene(t, 4, 20)
	for k := range 3 {
		s.alone(put(of4(0, 1, k), k), put(of4(1, 0, k), 4+k), put(of4(2, 3, k), 8+k), put(of4(3, 2, k), 12+k))
	}
	return s.alone(put(of4(0, 2, 0), 3), put(of4(1, 2, 0), 7), put(of4(3, 2, 3), 15))
}

// tryAll goes through all turns of a scene: each of these ends must be come to by some of them.
func tryAll(t *testing.T, name string, s *scene, ends string) {
	t.Helper()
	began := *s.moved
	clear(s.ends)
	n := s.byAllTurns()
	s.ends["moved"] = *s.moved - began
	for _, e := range strings.Fields(ends) {
		if s.ends[e] == 0 {
			t.Errorf("%s: of %d scenes none came to %q: %v", name, n, e, s.ends)
		}
	}
}

func TestAFlowByAllTurns(t *testing.T) {
	a, b := of2(0, 0), of2(0, 1)
	few := func() *scene { return newScene(t, 2, 3) }
	tryAll(t, "two put it, one looks", few().act(put(a, 0)).act(put(a, 1)).act(find(a)), "put busy found none")
	tryAll(t, "three put it", few().act(put(a, 0)).act(put(a, 1)).act(put(a, 2)), "put busy")
	tryAll(t, "it is dropped and put", few().alone(put(a, 0)).act(drop(a), put(a, 0)).act(put(a, 1)).act(find(a)), "put busy drop found none")
	tryAll(t, "its place is another's then", few().alone(put(a, 0)).act(drop(a), put(b, 0)).act(find(b)).act(find(a)), "put drop found none")
	tryAll(t, "it is seen, and looked for", few().act(put(a, 0), touch(a), touch(a)).act(find(a), find(a)), "put found none")
}

func TestOneThatGoesByAllTurns(t *testing.T) {
	a, c := of2(0, 0), of2(0, 9)
	tryAll(t, "it is looked for", crowd(t).act(put(c, 4)).act(find(a)), "put found moved")
	tryAll(t, "its flow is put", crowd(t).act(put(c, 4)).act(put(a, 5)), "put busy moved")
	tryAll(t, "it is dropped", crowd(t).act(put(c, 4)).act(drop(a)), "put drop moved")
	tryAll(t, "it is dropped, and looked for", crowd(t).act(put(c, 4)).act(drop(a)).act(find(a)), "put drop found none moved")
	tryAll(t, "two let it go", crowd(t).act(put(c, 4)).act(put(of2(0, 8), 5)), "put moved")
	tryAll(t, "another one is dropped", crowd(t).act(put(c, 4)).act(drop(of2(0, 1)), put(of2(0, 1), 1)), "put drop moved")
}

func TestOneThatGoesBackByAllTurns(t *testing.T) {
	a, c, d := of2(0, 0), of2(1, 9), of2(0, 9)
	tryAll(t, "it is looked for", away(t).act(put(c, 8)).act(find(a)), "put found moved")
	tryAll(t, "its flow is put", away(t).act(put(c, 8)).act(put(a, 9)), "put busy moved")
	tryAll(t, "it is dropped and put", away(t).act(put(c, 8)).act(drop(a), put(a, 0)), "put drop moved")
	tryAll(t, "another one takes the room", away(t).act(put(c, 8)).act(put(d, 9)), "put full moved")
	tryAll(t, "its flow is put, where there is no room else", away(t).alone(put(of2(0, 8), 2)).act(put(a, 9)).act(drop(of2(0, 8)), put(c, 8)), "put busy drop moved")
	tryAll(t, "and it is dropped", away(t).act(put(c, 8)).act(put(d, 9)).act(drop(a)), "put drop moved")
}

func TestTwoThatGoByAllTurns(t *testing.T) {
	x, i, g := of4(1, 2, 0), of4(0, 1, 0), of4(0, 1, 9)
	tryAll(t, "the second is looked for", deep(t).act(put(g, 14)).act(find(x)), "put found moved")
	tryAll(t, "the first is looked for", deep(t).act(put(g, 14)).act(find(i)), "put found moved")
	tryAll(t, "the second is dropped", deep(t).act(put(g, 14)).act(drop(x)), "put full drop moved")
	tryAll(t, "the first is dropped", deep(t).act(put(g, 14)).act(drop(i)), "put drop moved")
	tryAll(t, "the flow is put twice", deep(t).act(put(g, 14)).act(put(g, 13)), "put busy full moved")
	tryAll(t, "the room is taken", deep(t).act(put(g, 14)).act(put(of4(1, 2, 9), 13)), "put full moved")
	tryAll(t, "both make room for another", crossed(t).act(put(of4(0, 1, 9), 16)).act(put(of4(1, 0, 9), 17)), "put full moved")
}

// some is who does the next step: one goes on by several while others stand still, some for long.
func some(rnd *rand.Rand) func([]int) int {
	who, left := 0, 0
	return func(able []int) int {
		if left == 0 || !slices.Contains(able, who) {
			who, left = able[rnd.Intn(len(able))], 1+rnd.Intn(6)
			if rnd.Intn(8) == 0 {
				left = 60
			}
		}
		left--
		return who
	}
}

// someDeeds is on some flows, by some places; those of other actors, too.
func someDeeds(rnd *rand.Rand, flows []api.Flow, places, n int) []deed {
	l := make([]deed, n)
	for k := range l {
		l[k] = deed{kind: []int{finds, puts, puts, puts, puts, puts, drops, touches}[rnd.Intn(8)], flow: flows[rnd.Intn(len(flows))], place: rnd.Intn(places)}
	}
	return l
}

func TestByRandomTurns(t *testing.T) {
	rnd := rand.New(rand.NewSource(11))
	ends := map[string]int{}
	for range 400 {
		buckets := 2 << rnd.Intn(3)
		places := 4*buckets + 5
		var flows []api.Flow
		for len(flows) < places {
			flows = append(flows, api.Flow{Proto: api.Tcp, Addr: rnd.Uint32(), Port: uint16(rnd.Int())})
		}
		s := newScene(t, buckets, places)
		for i := range places {
			s.alone(put(flows[i], i))
		}
		for range 2 + rnd.Intn(4) {
			s.act(someDeeds(rnd, flows, places, 20)...)
		}
		s.play(some(rnd))
		for e, n := range s.ends {
			ends[e] += n
		}
		ends["moved"] += *s.moved
	}
	for _, e := range []string{"put", "busy", "full", "drop", "found", "none", "moved"} {
		if ends[e] < 300 {
			t.Errorf("it hardly ever came to %q: %v", e, ends)
		}
	}
}

// TestWhoStandsStill: at whatever step one stands still, another one who begins then is done by 400 Dos.
func TestWhoStandsStill(t *testing.T) {
	x, i, g := of4(1, 2, 0), of4(0, 1, 0), of4(0, 1, 9)
	for _, still := range []deed{put(g, 14), drop(x), drop(i)} {
		for _, other := range []deed{put(g, 13), put(of4(1, 2, 9), 13), put(of4(2, 1, 0), 13), find(g), find(x), find(i), drop(x), drop(i)} {
			s := deep(t).act(still).act(other)
			for s.able(0) {
				c := s.clone()
				for c.able(1) {
					c.turn(1)
				}
				for c.able(0) {
					c.turn(0)
				}
				c.finish()
				s.turn(0)
			}
		}
	}
}
