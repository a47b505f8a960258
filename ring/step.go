package ring

import "fanlight/api"

// Step is a Put or a Get that goes on. It goes by the ring at which it began, whoever is asked to do it.
type Step struct {
	ring  *Ring
	next  stage
	value uint64 // of a Put what is put; of a Get what was read
	end   api.Errno
	told  bool // value is to be told
}

// stage is what a Step does next. Over is 0: a Step that nobody began does nothing.
type stage int

const (
	over stage = iota
	putLook
	putLay
	putCount
	getLook
	getRead
	getCount
)

// Put begins to put v in.
func (r *Ring) Put(v uint64) *Step {
	if r == nil || r.putting.goesOn() {
		return nil
	}
	r.putting = &Step{ring: r, next: putLook, value: v}
	return r.putting
}

// Get begins to get the number that waits longest.
func (r *Ring) Get() *Step {
	if r == nil || r.getting.goesOn() {
		return nil
	}
	r.getting = &Step{ring: r, next: getLook}
	return r.getting
}

// Do does one step of s: is it done?
func (r *Ring) Do(s *Step) bool {
	if r == nil || s == nil {
		return true
	}
	switch s.next {
	case putLook, putLay, putCount:
		s.put()
	case getLook, getRead, getCount:
		s.get()
	}
	return s.next == over
}

// End is what s came to.
func (s *Step) End() api.Errno {
	if s == nil || s.ring == nil || s.next != over {
		return api.ErrState
	}
	return s.end
}

// Value is what s got.
func (s *Step) Value() uint64 {
	if s == nil || !s.told {
		return 0
	}
	return s.value
}

func (s *Step) goesOn() bool { return s != nil && s.next != over }

// put lays the number ahead of its count: nobody gets it till it is there.
func (s *Step) put() {
	r := s.ring
	switch s.next {
	case putLook:
		if r.puts-r.cells.Load(gotAt) >= r.room {
			s.finish(api.ErrFull)
			return
		}
		s.next = putLay
	case putLay:
		r.cells.Store(r.cellOf(r.puts), s.value)
		s.next = putCount
	case putCount:
		r.puts = r.cells.Add(putAt, 1)
		s.finish(api.OK)
	}
}

// get reads the number ahead of its count: nobody puts another one there till it was read.
func (s *Step) get() {
	r := s.ring
	switch s.next {
	case getLook:
		if r.cells.Load(putAt) == r.gots {
			s.finish(api.ErrNone)
			return
		}
		s.next = getRead
	case getRead:
		s.value = r.cells.Load(r.cellOf(r.gots))
		s.next = getCount
	case getCount:
		r.gots = r.cells.Add(gotAt, 1)
		s.told = true
		s.finish(api.OK)
	}
}

func (s *Step) finish(end api.Errno) {
	s.end = end
	s.next = over
}
