package table

import "fanlight/api"

// A bucket's cell has four slots of 12 bits, of which each is a place and one, or 0; above them, how often it was changed.
const (
	slotBits = 12
	slotMost = 1<<slotBits - 1
	change   = 1 << (slotBits * api.Slots)
)

// none is no place.
const none = -1

// bucket is what a bucket's cell has. It is read and changed whole: who finds it just as it was knows that nobody came or went between.
type bucket uint64

// at is the place in slot k, or none.
func (b bucket) at(k int) int { return int(b>>(k*slotBits)&slotMost) - 1 }

// slot is the first one that has a place; api.Slots, if there is none such.
func (b bucket) slot(place int) int {
	k := 0
	for k < api.Slots && b.at(k) != place {
		k++
	}
	return k
}

func (b bucket) has(place int) bool { return b.slot(place) < api.Slots }

func (b bucket) full() bool { return !b.has(none) }

// places is those in it, by their slots.
func (b bucket) places() []int {
	var l []int
	for k := range api.Slots {
		if b.at(k) != none {
			l = append(l, b.at(k))
		}
	}
	return l
}

// with is b, in whose first slot without a place there is one more.
func (b bucket) with(place int) bucket {
	return b | bucket(place+1)<<(b.slot(none)*slotBits)
}

// without is b, in which a place doesn't stand, whether it did or not.
func (b bucket) without(place int) bucket {
	for k := range api.Slots {
		if b.at(k) == place {
			b &^= slotMost << (k * slotBits)
		}
	}
	return b
}
