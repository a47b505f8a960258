package pool

import "testing"

// TestCountsComeRound: the count of a word's changes is modulo 2^32, and doesn't touch its numbers.
func TestCountsComeRound(t *testing.T) {
	p, _ := New(8)
	const most = (1<<32 - 1) << 32
	p.words.Store(0, most|0xFFFFFF01)
	s := p.Take(0, 2)
	p.Do(s)
	if !p.Do(s) || p.Copy()[0] != 0xFFFFFF07 || len(s.Got()) != 2 || s.Got()[0] != 1 {
		t.Errorf("Take: %x, %v", p.Copy(), s.Got())
	}
	p.words.Store(0, most|0xFFFFFF07)
	b := p.Back([]int{0, 2})
	p.Do(b)
	if !p.Do(b) || p.Copy()[0] != 0xFFFFFF02 {
		t.Errorf("Back: %x", p.Copy())
	}
}
