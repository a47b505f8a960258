package ring_test

import "fanlight/api"

// plain is a ring by plain numbers, as the chapter tells its steps.
type plain struct {
	got, put uint64
	numbers  []uint64
	putting  *plainStep
	getting  *plainStep
}

type plainStep struct {
	gets  bool
	at    int
	value uint64
	end   api.Errno
}

const overAt = 3

func newPlain(n int) *plain { return &plain{numbers: make([]uint64, n)} }

func (p *plain) begin(gets bool, v uint64) *plainStep {
	last := &p.putting
	if gets {
		last = &p.getting
	}
	if *last != nil && (*last).at != overAt {
		return nil
	}
	*last = &plainStep{gets: gets, value: v, end: api.ErrState}
	return *last
}

func (p *plain) do(s *plainStep) bool {
	n := uint64(len(p.numbers))
	switch {
	case s == nil || s.at == overAt:
		return true
	case s.at == 0 && s.gets && p.got == p.put:
		s.end, s.at = api.ErrNone, overAt
		return true
	case s.at == 0 && !s.gets && p.got+n == p.put:
		s.end, s.at = api.ErrFull, overAt
		return true
	case s.at == 1 && s.gets:
		s.value = p.numbers[p.got%n]
	case s.at == 1:
		p.numbers[p.put%n] = s.value
	case s.at == 2 && s.gets:
		p.got++
		s.end = api.OK
	case s.at == 2:
		p.put++
		s.end = api.OK
	}
	s.at++
	return s.at == overAt
}

func (p *plain) cells() []uint64 { return append([]uint64{p.got, p.put}, p.numbers...) }

func (p *plain) all() []uint64 {
	var l []uint64
	for k := p.got; k < p.put; k++ {
		l = append(l, p.numbers[k%uint64(len(p.numbers))])
	}
	return l
}

// told is what a Get got, if it is OK.
func (s *plainStep) told() uint64 {
	if s == nil || !s.gets || s.end != api.OK {
		return 0
	}
	return s.value
}

func (s *plainStep) ended() api.Errno {
	if s == nil {
		return api.ErrState
	}
	return s.end
}
