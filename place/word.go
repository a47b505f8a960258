package place

import "fanlight/api"

// States of a place.
const (
	Free = 0
	Made = 1
	Live = 2
	Gone = 3
)

// The greatest that the parts of a Word may be.
const (
	maxState = Gone
	maxTrack = 1<<3 - 1
	maxGen   = 1<<16 - 1
)

// Where the parts of a Word stand in its number.
const (
	trackAt = 8
	genAt   = 16
	seenAt  = 32
)

// Word is a place's: its state, the how manieth binding of it, the connection's state, when it was last seen.
type Word struct {
	State int
	Gen   int
	Track int
	Seen  int
}

// Pack is w as a number.
func Pack(w Word) (uint64, api.Errno) {
	if !canBe(w) {
		return 0, api.ErrArg
	}
	return uint64(w.State) | uint64(w.Track)<<trackAt | uint64(w.Gen)<<genAt | uint64(w.Seen)<<seenAt, api.OK
}

// Unpack is the Word of a number.
func Unpack(n uint64) Word {
	return Word{
		State: int(n & maxState),
		Gen:   int(n >> genAt & maxGen),
		Track: int(n >> trackAt & maxTrack),
		Seen:  int(n >> seenAt),
	}
}

// May tells whether now may follow old.
func May(old, now Word) bool {
	if !canBe(old) || !canBe(now) {
		return false
	}
	switch old.State {
	case Free:
		return now.State == Made && now.Gen == (old.Gen+1)&maxGen
	case Made:
		return becomes(old, now, Live) || becomes(old, now, Free)
	case Live:
		return seenAgain(old, now) || becomes(old, now, Gone)
	default:
		return becomes(old, now, Free)
	}
}

// canBe tells whether each part of w is one that there is.
func canBe(w Word) bool {
	return within(w.State, maxState) && within(w.Gen, maxGen) && within(w.Track, maxTrack) && within(w.Seen, api.MaxTick)
}

func within(n, most int) bool { return n >= 0 && n <= most }

// becomes tells whether now is old but for its state.
func becomes(old, now Word, state int) bool {
	old.State = state
	return now == old
}

// seenAgain tells whether now is the same binding, at a time that isn't ahead of old's.
func seenAgain(old, now Word) bool {
	return now.State == Live && now.Gen == old.Gen && now.Seen >= old.Seen
}
