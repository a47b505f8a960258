package pool_test

import (
	"math"
	"math/rand"
	"slices"
	"testing"

	"fanlight/pool"
)

// plain is what a Pool is to one who is alone: of each number whether it is taken, of each word how often it was changed.
type plain struct {
	taken   []bool
	changes []uint64
}

func newPlain(n int) *plain {
	return &plain{taken: make([]bool, n), changes: make([]uint64, (n+31)/32)}
}

func (p *plain) isTaken(n int) bool { return n >= len(p.taken) || p.taken[n] }

func (p *plain) word(k int) uint64 {
	w := p.changes[k] % (1 << 32) << 32
	for i := range 32 {
		if p.isTaken(32*k + i) {
			w += 1 << i
		}
	}
	return w
}

func (p *plain) free(k int) []int {
	var l []int
	for n := 32 * k; n < 32*k+32; n++ {
		if !p.isTaken(n) {
			l = append(l, n)
		}
	}
	return l
}

// set lets the numbers, all of word k, be taken or free.
func (p *plain) set(k int, l []int, taken bool) {
	for _, n := range l {
		p.taken[n] = taken
	}
	p.changes[k]++
}

// plainStep is a Take, a Same or a Back: which words it has to look at yet.
type plainStep struct {
	kind       string
	queue      []int
	most       int
	ports      []int
	seen       map[int]uint64
	cas        bool
	none, same bool
	got        []int
	word       int
}

func (p *plain) take(from, most int) *plainStep {
	words := uint64(len(p.changes))
	s := &plainStep{kind: "take", most: most, seen: map[int]uint64{}, word: -1}
	first := uint64(from) % words
	for i := range words {
		s.queue = append(s.queue, int((first+i)%words))
	}
	return s
}

func (p *plain) sameAs(t *plainStep) *plainStep {
	s := &plainStep{kind: "same", seen: t.seen, word: -1}
	for k := range p.changes {
		s.queue = append(s.queue, k)
	}
	return s
}

func (p *plain) back(ports []int) *plainStep {
	s := &plainStep{kind: "back", seen: map[int]uint64{}, word: -1}
	for _, n := range ports {
		if n < 0 || n >= len(p.taken) {
			continue
		}
		if !slices.Contains(s.ports, n) {
			s.ports = append(s.ports, n)
		}
		if !slices.Contains(s.queue, n/32) {
			s.queue = append(s.queue, n/32)
		}
	}
	slices.Sort(s.ports)
	return s
}

func (s *plainStep) done() bool { return len(s.queue) == 0 }

// left is the ports whose word isn't over.
func (s *plainStep) left() []int {
	return slices.DeleteFunc(slices.Clone(s.ports), func(n int) bool { return !slices.Contains(s.queue, n/32) })
}

func (p *plain) do(s *plainStep) bool {
	if s.done() {
		return true
	}
	k := s.queue[0]
	switch s.kind {
	case "take":
		p.doTake(s, k)
	case "same":
		s.queue = s.queue[1:]
		if p.word(k) != s.seen[k] {
			s.queue = nil
		} else if len(s.queue) == 0 {
			s.same = true
		}
	case "back":
		p.doBack(s, k)
	}
	return s.done()
}

func (p *plain) doTake(s *plainStep, k int) {
	free := p.free(k)
	if s.cas {
		s.cas = false
		if p.word(k) == s.seen[k] {
			s.got = free[:min(len(free), max(1, min(32, s.most)))]
			s.word, s.queue = k, nil
			p.set(k, s.got, true)
		}
		return
	}
	s.seen[k] = p.word(k)
	s.cas = len(free) > 0
	if !s.cas {
		s.queue = s.queue[1:]
		s.none = len(s.queue) == 0
	}
}

func (p *plain) doBack(s *plainStep, k int) {
	mine := slices.DeleteFunc(slices.Clone(s.ports), func(n int) bool { return n/32 != k })
	if s.cas {
		s.cas = false
		if p.word(k) == s.seen[k] {
			p.set(k, mine, false)
			s.queue = s.queue[1:]
		}
		return
	}
	s.seen[k] = p.word(k)
	s.cas = slices.ContainsFunc(mine, p.isTaken)
	if !s.cas {
		s.queue = s.queue[1:]
	}
}

// pair is a Pool and what it should be, and the Steps that began.
type pair struct {
	p     *pool.Pool
	plain *plain
	steps []*pool.Step
	plans []*plainStep
	sames int
	lost  int
}

func (x *pair) begin(s *pool.Step, as *plainStep) {
	x.steps = append(x.steps, s)
	x.plans = append(x.plans, as)
}

// somePorts is ports of which some are none, and some stand there twice.
func (x *pair) somePorts(rnd *rand.Rand) []int {
	n := len(x.plain.taken)
	l := make([]int, rnd.Intn(n+4))
	for i := range l {
		l[i] = rnd.Intn(n+4) - 2
	}
	return l
}

func (x *pair) act(t *testing.T, rnd *rand.Rand) {
	t.Helper()
	switch k := rnd.Intn(24); {
	case k < 3:
		froms := []int{0, 1, 2, 3, 5, -1, -2, math.MinInt, math.MaxInt}
		mosts := []int{math.MinInt, -1, 0, 1, 2, 8, 20, 31, 32, 33, math.MaxInt}
		from, most := froms[rnd.Intn(len(froms))], mosts[rnd.Intn(len(mosts))]
		x.begin(x.p.Take(from, most), x.plain.take(from, most))
	case k == 3:
		l := x.somePorts(rnd)
		x.begin(x.p.Back(l), x.plain.back(l))
	case k < 8 && len(x.steps) > 0:
		i := rnd.Intn(len(x.steps))
		s := x.p.Same(x.steps[i])
		if (s != nil) != x.plans[i].none {
			t.Fatalf("a Same of %+v: %v", *x.plans[i], s)
		}
		if s != nil {
			x.begin(s, x.plain.sameAs(x.plans[i]))
		}
	case len(x.steps) > 0:
		i := len(x.steps) - 1 - rnd.Intn(min(len(x.steps), 6))
		was := x.plans[i].cas
		if got, want := x.p.Do(x.steps[i]), x.plain.do(x.plans[i]); got != want {
			t.Fatalf("Do of %+v: %v", *x.plans[i], got)
		}
		if was && !x.plans[i].done() && x.plans[i].kind == "take" {
			x.lost++
		}
	}
}

func (x *pair) check(t *testing.T) {
	t.Helper()
	var words []uint64
	var free []int
	for k := range x.plain.changes {
		words = append(words, x.plain.word(k))
		free = append(free, x.plain.free(k)...)
	}
	if !slices.Equal(x.p.Copy(), words) || !slices.Equal(x.p.Free(), free) {
		t.Fatalf("words %x, not %x; free %v, not %v", x.p.Copy(), words, x.p.Free(), free)
	}
	for i, s := range x.steps {
		as := x.plans[i]
		if !slices.Equal(s.Got(), as.got) || s.None() != as.none || s.Word() != as.word || s.Same() != as.same || !slices.Equal(s.Left(), as.left()) {
			t.Fatalf("%+v: got %v, none %v, word %d, same %v, left %v", *as, s.Got(), s.None(), s.Word(), s.Same(), s.Left())
		}
		if s.Same() {
			x.sames++
		}
	}
	if len(x.steps) > 12 {
		x.steps, x.plans = x.steps[4:], x.plans[4:]
	}
}

func TestAgainstPlainNumbers(t *testing.T) {
	rnd := rand.New(rand.NewSource(8))
	sizes := []int{1, 2, 31, 32, 33, 40, 64, 65, 100}
	sames, lost := 0, 0
	for range 300 {
		n := sizes[rnd.Intn(len(sizes))]
		x := &pair{p: mustNew(t, n), plain: newPlain(n)}
		for range 300 {
			x.act(t, rnd)
			x.check(t)
		}
		sames += x.sames
		lost += x.lost
	}
	if sames < 100 || lost < 100 {
		t.Errorf("%d times a Same was true, %d Cas lost: hardly any", sames, lost)
	}
}
