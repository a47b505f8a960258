package table

import "fanlight/api"

// movesMost is how many places a Put lets go at most. Alone it needs two; of those that fight for the last rooms each may take what another one made, and go round and round.
const movesMost = 16

// marked is what the cell of a place has that is being dropped.
const marked = 1

// move is a place that may go from a bucket to its other one. Deep: to make room for one that may make room in the flow's first bucket.
type move struct {
	place, from int
	deep        bool
}

func (s *Step) put() {
	switch s.next {
	case putUnmark:
		// Nobody can mean the place's last binding any more: it wasn't made again ahead of that.
		s.table.cells.Store(s.table.markOf(s.place), 0)
		s.next = lookFirst
	case putLay:
		s.lay()
	}
}

// lay puts the place into the first bucket, if that is as it was when nobody had the flow. All who put this flow change that one cell: so one of them does it.
func (s *Step) lay() {
	if s.table.cas(s.spots[0], s.first, s.first.with(s.place)) {
		s.finish(api.OK)
		return
	}
	s.next = lookFirst
}

// makeRoom is one step of letting another place go to its other bucket.
//
// It is laid there first, and then taken out where it was. As long as it stands in both nobody else lets it go: who laid it takes it out. If that doesn't end the Put, all is looked at anew: others may have come between.
func (s *Step) makeRoom() {
	switch s.next {
	case moveKey:
		s.readWhere()
	case moveRead:
		s.readRoom()
	case moveMark:
		s.readMark()
	case moveLay:
		s.layOther()
	case moveReplace:
		s.replace()
	case leaveRead:
		s.readLeft()
	case leaveCas:
		s.leave()
	}
}

// openMoves begins to look for room. Those that stand in the first bucket are tried first; where there is no room for one of them, those that stand there come behind them all. One that let many go, and hasn't got the room, tries no more: nobody changes anything for ever, whatever the turns.
func (s *Step) openMoves() {
	s.moves = nil
	if s.moved < movesMost {
		s.addMoves(s.spots[0], s.first, false)
	}
	s.tryMove()
}

func (s *Step) addMoves(from int, b bucket, deep bool) {
	for _, i := range b.places() {
		s.moves = append(s.moves, move{place: i, from: from, deep: deep})
	}
}

func (s *Step) tryMove() {
	if len(s.moves) == 0 {
		s.next = lookAgain
		return
	}
	s.next = moveKey
}

// skipMove goes on behind a place that may not go.
func (s *Step) skipMove() {
	s.moves = s.moves[1:]
	s.tryMove()
}

func (s *Step) readWhere() {
	m := s.moves[0]
	to, ok := s.table.other(s.table.places.Key(m.place), m.from)
	// The flow's first bucket has no room that a deep move could have.
	if !ok || to == s.spots[0] {
		s.skipMove()
		return
	}
	s.to = to
	s.next = moveRead
}

// readRoom passes over a place that stands in both buckets: somebody else lets it go just now.
func (s *Step) readRoom() {
	m := s.moves[0]
	s.read = s.table.bucket(s.to)
	if s.read.has(m.place) || m.deep && s.read.full() {
		s.skipMove()
		return
	}
	s.next = moveMark
}

// readMark reads whether the place is being dropped, behind what the bucket is that it goes to. Who drops it marks it first, and then changes both buckets: so it isn't laid there behind its back.
func (s *Step) readMark() {
	m := s.moves[0]
	switch {
	case s.table.cells.Load(s.table.markOf(m.place)) == marked:
		s.skipMove()
	case s.read.full():
		s.addMoves(s.to, s.read, true)
		s.skipMove()
	default:
		s.next = moveLay
	}
}

func (s *Step) layOther() {
	m := s.moves[0]
	if !s.table.cas(s.to, s.read, s.read.with(m.place)) {
		s.next = lookFirst
		return
	}
	s.moved++
	s.next = moveReplace
	if m.deep {
		s.next = leaveRead
	}
}

// replace puts the place where the other one leaves the first bucket, if that is as it was when nobody had the flow: so nobody else can have the room.
func (s *Step) replace() {
	if s.table.cas(s.spots[0], s.first, s.first.without(s.moves[0].place).with(s.place)) {
		s.finish(api.OK)
		return
	}
	s.next = leaveRead
}

// readLeft begins to take out the place that went. It isn't there, if it was dropped between.
func (s *Step) readLeft() {
	m := s.moves[0]
	s.read = s.table.bucket(m.from)
	if s.read.has(m.place) {
		s.next = leaveCas
		return
	}
	s.next = lookFirst
}

func (s *Step) leave() {
	m := s.moves[0]
	if s.table.cas(m.from, s.read, s.read.without(m.place)) {
		s.next = lookFirst
		return
	}
	s.next = leaveRead
}
