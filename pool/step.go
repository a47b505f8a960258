package pool

import (
	"slices"

	"fanlight/api"
	"fanlight/cells"
)

// Step is a Take, a Same or a Back that goes on. It goes by the words at which it began, whoever is asked to do it.
type Step struct {
	words *cells.Cells
	next  stage
	word  int              // the one that is looked at
	ahead int              // of a Take and a Same: how many words aren't over, with this one
	most  int              // of a Take: how many numbers it wants
	read  [maxWords]uint64 // what each word was when it was last read; of a Same when its Take did
	took  uint32           // of a Take: the numbers in its word
	none  bool
	same  bool
	gifts []gift // of a Back: those whose word isn't over
}

// gift is numbers of one word that are given back, as bits.
type gift struct {
	word int
	set  uint32
}

// stage is what a Step does next. Over is 0: a Step that nobody began does nothing.
type stage int

const (
	over stage = iota
	takeRead
	takeCas
	sameRead
	backRead
	backCas
)

// Take begins to take free numbers of one word, at most so many; it looks at word from first.
func (p *Pool) Take(from, most int) *Step {
	n := p.count()
	if n == 0 {
		return nil
	}
	return &Step{
		words: p.words,
		next:  takeRead,
		word:  int(uint64(from) % uint64(n)),
		ahead: n,
		most:  min(max(most, 1), api.Block),
	}
}

// Same begins to look whether the words are as t, which found none, read them. What was read in another pool tells nothing of this one.
func (p *Pool) Same(t *Step) *Step {
	if p == nil || !t.None() || t.words != p.words {
		return nil
	}
	return &Step{words: p.words, next: sameRead, ahead: p.count(), read: t.read}
}

// Back begins to give ports back.
func (p *Pool) Back(ports []int) *Step {
	if p == nil {
		return nil
	}
	s := &Step{words: p.words, gifts: p.gifts(ports)}
	s.openGift()
	return s
}

// Do does one step of s: is it done?
func (p *Pool) Do(s *Step) bool {
	if p == nil || s == nil {
		return true
	}
	switch s.next {
	case takeRead:
		s.readToTake()
	case takeCas:
		s.take()
	case sameRead:
		s.compare()
	case backRead:
		s.readToGive()
	case backCas:
		s.give()
	}
	return s.next == over
}

// Got is what a Take took, rising.
func (s *Step) Got() []int {
	if s == nil {
		return nil
	}
	return numbers(s.word, s.took)
}

// None tells whether s is a Take that is done, and took none.
func (s *Step) None() bool { return s != nil && s.none }

// Word is the one in which a Take took, or -1.
func (s *Step) Word() int {
	if s == nil || s.took == 0 {
		return -1
	}
	return s.word
}

// Same tells whether s is a Same that is done, and found all words the same.
func (s *Step) Same() bool { return s != nil && s.same }

// Left is those of a Back's numbers whose word isn't over, rising.
func (s *Step) Left() []int {
	if s == nil {
		return nil
	}
	var l []int
	for _, g := range s.gifts {
		l = append(l, numbers(g.word, g.set)...)
	}
	slices.Sort(l)
	return l
}

// count is how many words there are.
func (p *Pool) count() int {
	if p == nil {
		return 0
	}
	return p.words.Size()
}

// gifts is ports by words, in the order in which the words first come.
func (p *Pool) gifts(ports []int) []gift {
	var sets [maxWords]uint32
	var order []int
	for _, n := range ports {
		if !p.has(n) {
			continue
		}
		k := n / api.Block
		if sets[k] == 0 {
			order = append(order, k)
		}
		sets[k] |= 1 << (n % api.Block)
	}
	l := make([]gift, len(order))
	for i, k := range order {
		l[i] = gift{word: k, set: sets[k]}
	}
	return l
}

func (s *Step) readToTake() {
	w := s.words.Load(s.word)
	s.read[s.word] = w
	switch {
	case freeOf(w) != 0:
		s.next = takeCas
	case s.ahead == 1:
		s.none = true
		s.next = over
	default:
		s.ahead--
		s.word = (s.word + 1) % s.words.Size()
	}
}

func (s *Step) take() {
	w := s.read[s.word]
	set := lowest(freeOf(w), s.most)
	if !s.words.Cas(s.word, w, (w|uint64(set))+change) {
		s.next = takeRead
		return
	}
	s.took = set
	s.next = over
}

func (s *Step) compare() {
	switch {
	case s.words.Load(s.word) != s.read[s.word]:
		s.next = over
	case s.ahead == 1:
		s.same = true
		s.next = over
	default:
		s.ahead--
		s.word++
	}
}

func (s *Step) readToGive() {
	g := s.gifts[0]
	w := s.words.Load(g.word)
	s.read[g.word] = w
	if uint32(w)&g.set == 0 {
		s.closeGift()
		return
	}
	s.next = backCas
}

func (s *Step) give() {
	g := s.gifts[0]
	w := s.read[g.word]
	if !s.words.Cas(g.word, w, w&^uint64(g.set)+change) {
		s.next = backRead
		return
	}
	s.closeGift()
}

func (s *Step) closeGift() {
	s.gifts = s.gifts[1:]
	s.openGift()
}

// openGift goes on to the first word that isn't over, if there is one.
func (s *Step) openGift() {
	s.next = over
	if len(s.gifts) > 0 {
		s.next = backRead
	}
}
