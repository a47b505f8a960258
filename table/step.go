package table

import (
	"fanlight/api"
	"fanlight/place"
)

// Step is a Find, a Put or a Drop that goes on. It goes by the table at which it began, whoever is asked to do it.
type Step struct {
	table *Table
	next  stage
	flow  api.Flow
	spots [2]int // the buckets in which flow may stand
	place int    // of a Put and a Drop; none of a Find
	end   api.Errno
	found int
	word  place.Word
	told  bool // found and word are to be told

	first bucket // of a Find and a Put: the first bucket, as it was when flow was looked for
	now   int    // which of spots is gone through
	queue []int  // the places there that aren't looked at yet

	moves []move // of a Put: what may make room, and wasn't tried yet; the first one is being tried
	to    int    // the bucket to which that goes
	moved int    // how many it let go

	read bucket // what is changed next, as it was read
}

// stage is what a Step does next. Over is 0: a Step that nobody began does nothing.
type stage int

const (
	over stage = iota
	idle
	lookFirst
	lookSecond
	lookKey
	lookWord
	lookAgain
	putUnmark
	putLay
	moveKey
	moveRead
	moveMark
	moveLay
	moveReplace
	leaveRead
	leaveCas
	dropMark
	dropRead
	dropCas
)

// Find begins to look who has f.
func (t *Table) Find(f api.Flow) *Step { return t.begin(f, none, lookFirst) }

// Put begins to let place i have f, if nobody has.
func (t *Table) Put(f api.Flow, i int) *Step {
	if t.made() && !t.has(i) {
		return t.refuse(api.ErrArg)
	}
	return t.begin(f, i, putUnmark)
}

// Drop begins to take place i, which had f, out of the table.
func (t *Table) Drop(f api.Flow, i int) *Step {
	if t.made() && !t.has(i) {
		return t.refuse(api.OK)
	}
	return t.begin(f, i, dropMark)
}

// Do does one step of s: is it done?
func (t *Table) Do(s *Step) bool {
	if !t.made() || s == nil {
		return true
	}
	switch s.next {
	case idle:
		s.next = over
	case lookFirst, lookSecond, lookKey, lookWord, lookAgain:
		s.look()
	case putUnmark, putLay:
		s.put()
	case moveKey, moveRead, moveMark, moveLay, moveReplace, leaveRead, leaveCas:
		s.makeRoom()
	case dropMark, dropRead, dropCas:
		s.drop()
	}
	return s.next == over
}

// End is what s came to.
func (s *Step) End() api.Errno {
	if s == nil || s.table == nil || s.next != over {
		return api.ErrState
	}
	return s.end
}

// Found is which place has the flow, and its Word as it was read; or none.
func (s *Step) Found() (int, place.Word) {
	if s == nil || !s.told {
		return none, place.Word{}
	}
	return s.found, s.word
}

func (t *Table) begin(f api.Flow, i int, next stage) *Step {
	if !t.made() {
		return nil
	}
	first, second := Spots(f, t.buckets)
	return &Step{table: t, next: next, flow: f, spots: [2]int{first, second}, place: i}
}

// refuse is a Step for a place that there isn't: it is done without a cell.
func (t *Table) refuse(end api.Errno) *Step {
	return &Step{table: t, next: idle, place: none, end: end}
}

func (s *Step) finish(end api.Errno) {
	s.end = end
	s.next = over
}

// look is one step of looking who has the flow: both buckets are gone through, one behind the other.
//
// A place may be put from the second bucket into the first one meanwhile. So nobody had the flow only if the first bucket is then as it was: whoever comes by it, to stay or on the way to the second one, changes it.
func (s *Step) look() {
	switch s.next {
	case lookFirst:
		s.lookFrom(s.table.bucket(s.spots[0]))
	case lookSecond:
		s.goThrough(1, s.table.bucket(s.spots[1]))
	case lookKey:
		s.lookAtKey()
	case lookWord:
		s.lookAtWord()
	case lookAgain:
		s.lookOnceMore()
	}
}

// lookFrom begins to look, with what the first bucket is.
func (s *Step) lookFrom(b bucket) {
	s.first = b
	s.goThrough(0, b)
}

func (s *Step) goThrough(now int, b bucket) {
	s.now = now
	s.queue = b.places()
	s.lookOn()
}

func (s *Step) lookOn() {
	switch {
	case len(s.queue) > 0:
		s.next = lookKey
	case s.now == 0:
		s.next = lookSecond
	case s.place == none:
		s.next = lookAgain
	case s.first.full():
		s.openMoves()
	default:
		s.next = putLay
	}
}

// passOn goes on behind a place that hasn't the flow.
func (s *Step) passOn() {
	s.queue = s.queue[1:]
	s.lookOn()
}

// lookAtKey reads whose a place is, ahead of its Word: one that is Made or Live then had this Key when it was read.
func (s *Step) lookAtKey() {
	if s.table.places.Key(s.queue[0]) == s.flow {
		s.next = lookWord
		return
	}
	s.passOn()
}

func (s *Step) lookAtWord() {
	i := s.queue[0]
	w := s.table.places.Load(i)
	switch {
	case w.State != place.Made && w.State != place.Live:
		s.passOn()
	case s.place == i:
		// Against the rules it was put ahead of this.
		s.finish(api.OK)
	case s.place == none:
		s.tell(api.OK, i, w)
	default:
		s.tell(api.ErrBusy, i, w)
	}
}

func (s *Step) tell(end api.Errno, i int, w place.Word) {
	s.found, s.word, s.told = i, w, true
	s.finish(end)
}

// lookOnceMore ends a Find, or a Put for which no room could be made, if nobody came by the first bucket since it was read.
func (s *Step) lookOnceMore() {
	b := s.table.bucket(s.spots[0])
	switch {
	case b != s.first:
		s.lookFrom(b)
	case s.place == none:
		s.finish(api.ErrNone)
	default:
		s.finish(api.ErrFull)
	}
}
