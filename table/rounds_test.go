package table_test

import (
	"math/rand"
	"testing"

	"fanlight/api"
	"fanlight/place"
	"fanlight/table"
)

// contest is flows that stand in four buckets, and others that are put there then, all by turns, each from some round on.
type contest struct {
	stand, come []api.Flow
	from        []int
}

// aRoundDance is one in which nobody gets the last rooms, if each that can make room makes it again and again: another one takes it, who makes room as well.
func aRoundDance() contest {
	var l []api.Flow
	for _, x := range [][2]int{
		{797046946, 35280}, {3556527810, 33235}, {498331843, 7323}, {793950674, 13691}, {4008128607, 6678}, {3596839621, 52242}, {4061013200, 9536},
		{1321446094, 6897}, {3127572125, 20421}, {4161603264, 17499}, {3921695116, 47398}, {3593813338, 8898}, {1028769418, 7239}, {1288967788, 52112},
		{993583184, 3798}, {759629168, 14740}, {626995367, 29842}, {1707760381, 38178}, {3578531432, 8099}, {2666375209, 48228}, {1684260312, 30161}, {1971173361, 57934},
	} {
		l = append(l, api.Flow{Proto: api.Udp, Addr: uint32(x[0]), Port: uint16(x[1])})
	}
	return contest{stand: l[:14], come: l[14:], from: []int{17, 26, 18, 12, 19, 36, 38, 4}}
}

// someContest has a table that is full but for a room or two.
func someContest(rnd *rand.Rand) contest {
	var c contest
	for range 14 {
		c.stand = append(c.stand, someFlow(rnd))
	}
	for range 2 + rnd.Intn(10) {
		c.come = append(c.come, someFlow(rnd))
		c.from = append(c.from, rnd.Intn(40))
	}
	return c
}

// play lets all who come do their steps by turns, a round behind the other: how many rounds it took.
func (c contest) play(t *testing.T, most int) int {
	t.Helper()
	p, x := mustNew(t, len(c.stand)+len(c.come), 4)
	for i, f := range c.stand {
		put(t, p, x, f, i)
	}
	var steps []*table.Step
	for k, f := range c.come {
		i := len(c.stand) + k
		p.SetKey(i, f)
		become(t, p, i, place.Made)
		steps = append(steps, x.Put(f, i))
	}
	for round := range most {
		left := 0
		for k, s := range steps {
			if round < c.from[k] || !x.Do(s) {
				left++
			}
		}
		if left == 0 {
			return round
		}
	}
	t.Fatalf("it has no end by %d rounds: %v, %+v", most, x.All(), c)
	return 0
}

// TestPutsByTurnsEnd: those that fight for the last rooms are done behind some rounds, of which each lets each do a step.
func TestPutsByTurnsEnd(t *testing.T) {
	t.Parallel()
	most := aRoundDance().play(t, 2000)
	rnd := rand.New(rand.NewSource(11))
	for range 30000 {
		most = max(most, someContest(rnd).play(t, 2000))
	}
	t.Logf("%d rounds at most", most)
}
