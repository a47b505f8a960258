package epoch

import "fanlight/cells"

// Step is what a worker does yet: Pin, or Advance; it is told what it came to. It goes by the cells at which it began, whoever is asked to do it.
type Step struct {
	cells *cells.Cells
	next  stage
	epoch uint64 // which was read
	cell  int    // of a Pin its worker's; of an Advance the one that is read next
	won   bool
}

// stage is what a Step does next. Over is 0: a Step that nobody began does nothing.
type stage int

const (
	over stage = iota
	pinRead
	pinLay
	pinCheck
	advanceRead
	advanceLook
	advanceMove
)

// Pin begins to pin w at the world's epoch.
func (e *Epochs) Pin(w int) *Step {
	if !e.has(w) {
		return nil
	}
	return &Step{cells: e.cells, next: pinRead, cell: cellOf(w)}
}

// Advance begins to bring on the world's epoch.
func (e *Epochs) Advance() *Step {
	if e == nil {
		return nil
	}
	return &Step{cells: e.cells, next: advanceRead, cell: cellOf(0)}
}

// Do does one step of s: is it done?
func (e *Epochs) Do(s *Step) bool {
	if e == nil || s == nil {
		return true
	}
	switch s.next {
	case pinRead, pinLay, pinCheck:
		s.pin()
	case advanceRead, advanceLook, advanceMove:
		s.advance()
	}
	return s.next == over
}

// Won tells whether s brought on the epoch.
func (s *Step) Won() bool { return s != nil && s.won }

func (s *Step) pin() {
	switch s.next {
	case pinRead:
		s.epoch = s.cells.Load(world)
		s.next = pinLay
	case pinLay:
		s.cells.Store(s.cell, s.epoch+1)
		s.next = pinCheck
	case pinCheck:
		// The world may have gone on ahead of the pin, when nobody saw it.
		if s.cells.Load(world) == s.epoch {
			s.next = over
		} else {
			s.next = pinRead
		}
	}
}

func (s *Step) advance() {
	switch s.next {
	case advanceRead:
		s.epoch = s.cells.Load(world)
		s.next = advanceLook
	case advanceLook:
		s.look()
	case advanceMove:
		s.won = s.cells.Cas(world, s.epoch, s.epoch+1)
		s.next = over
	}
}

// look reads one worker's pin, which may stop the Advance.
func (s *Step) look() {
	pin := s.cells.Load(s.cell)
	s.cell++
	switch {
	case pin != 0 && pin != s.epoch+1:
		s.next = over
	case s.cell >= s.cells.Size():
		s.next = advanceMove
	}
}
