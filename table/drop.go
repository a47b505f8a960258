package table

import "fanlight/api"

// drop is one step of taking a place out of both its buckets. Each is changed, whether it stands there or not: who read one ahead of that can't lay it there any more.
func (s *Step) drop() {
	switch s.next {
	case dropMark:
		s.table.cells.Store(s.table.markOf(s.place), marked)
		s.next = dropRead
	case dropRead:
		s.read = s.table.bucket(s.spots[s.now])
		s.next = dropCas
	case dropCas:
		s.takeOut()
	}
}

func (s *Step) takeOut() {
	switch {
	case !s.table.cas(s.spots[s.now], s.read, s.read.without(s.place)):
		s.next = dropRead
	case s.now == 0:
		s.now = 1
		s.next = dropRead
	default:
		s.finish(api.OK)
	}
}
