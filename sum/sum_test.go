package sum_test

import (
	"bytes"
	"math/rand"
	"testing"

	"fanlight/sum"
)

// folded tells by a remainder what the package tells by carries: of all numbers that differ by 65535 the one of 16 bits, 0 of 0 alone.
func folded(n uint64) uint64 {
	if n == 0 {
		return 0
	}
	return (n-1)%65535 + 1
}

func added(n uint64, b []byte) uint64 {
	for i, x := range b {
		if i%2 == 0 {
			n += uint64(x) * 256
		} else {
			n += uint64(x)
		}
	}
	return n
}

func turned(n uint64) uint16 { return uint16(65535 - n) }

var edges = []uint16{0, 1, 2, 0x00FF, 0x0100, 0x3285, 0x5555, 0x7FFF, 0x8000, 0xDD2F, 0xFF00, 0xFFFD, 0xFFFE, 0xFFFF}

func TestOf(t *testing.T) {
	for _, c := range []struct {
		b    []byte
		want uint16
	}{
		{nil, 0xFFFF},
		{[]byte{}, 0xFFFF},
		{[]byte{0, 1, 0xF2, 3, 0xF4, 0xF5, 0xF6, 0xF7}, 0x220D},
		{[]byte{0, 0}, 0xFFFF},
		{[]byte{0}, 0xFFFF},
		{[]byte{1}, 0xFEFF},
		{[]byte{0, 1, 0xF2}, 0x0DFE},
		{[]byte{0xFF, 0xFF}, 0},
		{[]byte{0xFF, 0xFF, 0xFF, 0xFF}, 0},
		{[]byte{0xFF, 0xFF, 0, 1}, 0xFFFE},
		{[]byte{0x12, 0x34}, 0xEDCB},
	} {
		if got := sum.Of(c.b); got != c.want {
			t.Errorf("Of(%x) = %x, not %x", c.b, got, c.want)
		}
	}
}

func TestMore(t *testing.T) {
	for _, c := range []struct {
		n    uint32
		b    []byte
		want uint32
	}{
		{0, nil, 0},
		{0xFFFF, nil, 0xFFFF},
		{0x10000, nil, 1},
		{0x1FFFE, nil, 0xFFFF},
		{0x1FFFF, nil, 1},
		{0xFFFF0000, nil, 0xFFFF},
		{0xFFFFFFFF, nil, 0xFFFF},
		{0xFFFFFFFF, []byte{0, 1}, 1},
		{0xFFFFFFFF, []byte{0xFF, 0xFF, 0xFF, 0xFF}, 0xFFFF},
		{0xFFFF, []byte{0, 0}, 0xFFFF},
		{0xFFFF, []byte{0, 1}, 1},
		{5, []byte{1, 2, 3}, 0x0407},
	} {
		if got := sum.More(c.n, c.b); got != c.want {
			t.Errorf("More(%x, %x) = %x, not %x", c.n, c.b, got, c.want)
		}
	}
}

func TestMoreOfManyBytes(t *testing.T) {
	r := rand.New(rand.NewSource(1))
	for length := 0; length < 300; length++ {
		b := make([]byte, length)
		r.Read(b)
		n := r.Uint32()
		if got, want := sum.More(n, b), folded(added(uint64(n), b)); uint64(got) != want {
			t.Fatalf("More(%x, %x) = %x, not %x", n, b, got, want)
		}
	}
	// so many that the carries go beyond 32 bits
	long := bytes.Repeat([]byte{0xFF, 0xFE}, 1<<18)
	if got, want := sum.More(7, long), folded(added(7, long)); uint64(got) != want {
		t.Errorf("long: %x, not %x", got, want)
	}
}

func TestMoreGoesOn(t *testing.T) {
	r := rand.New(rand.NewSource(2))
	for range 500 {
		b := make([]byte, r.Intn(40))
		r.Read(b)
		cut := r.Intn(len(b)/2+1) * 2
		if got, want := sum.More(sum.More(3, b[:cut]), b[cut:]), sum.More(3, b); got != want {
			t.Fatalf("%x cut at %d: %x, not %x", b, cut, got, want)
		}
	}
}

func TestDone(t *testing.T) {
	for _, n := range []uint32{0, 1, 0xFFFE, 0xFFFF, 0x10000, 0x10001, 0x1FFFE, 0x1FFFF, 0xFFFE0001, 0xFFFF0000, 0xFFFF0001, 0xFFFFFFFE, 0xFFFFFFFF} {
		if got, want := sum.Done(n), turned(folded(uint64(n))); got != want {
			t.Errorf("Done(%x) = %x, not %x", n, got, want)
		}
	}
}

func TestFix(t *testing.T) {
	if got := sum.Fix(0xDD2F, 0x5555, 0x3285); got != 0 {
		t.Errorf("RFC 1624's example: %x", got)
	}
	for _, s := range edges {
		for _, old := range edges {
			for _, now := range edges {
				want := turned(folded(uint64(turned(uint64(s))) + uint64(turned(uint64(old))) + uint64(now)))
				if got := sum.Fix(s, old, now); got != want {
					t.Fatalf("Fix(%x, %x, %x) = %x, not %x", s, old, now, got, want)
				}
			}
		}
	}
}

func TestFixWideIsFixTwice(t *testing.T) {
	r := rand.New(rand.NewSource(3))
	edge := func() uint16 { return edges[r.Intn(len(edges))] }
	for range 5000 {
		s, oldHigh, oldLow, nowHigh, nowLow := edge(), edge(), edge(), edge(), edge()
		want := sum.Fix(sum.Fix(s, oldHigh, nowHigh), oldLow, nowLow)
		got := sum.FixWide(s, uint32(oldHigh)<<16|uint32(oldLow), uint32(nowHigh)<<16|uint32(nowLow))
		if got != want {
			t.Fatalf("FixWide(%x, %x %x, %x %x) = %x, not %x", s, oldHigh, oldLow, nowHigh, nowLow, got, want)
		}
	}
}

func put16(b []byte, at int, n uint16) { b[at], b[at+1] = byte(n>>8), byte(n) }

// summed lays the checksum of b into its bytes at at.
func summed(b []byte, at int) uint16 {
	put16(b, at, 0)
	s := sum.Of(b)
	put16(b, at, s)
	return s
}

func alike(a, b uint16) bool { return a == b || a^b == 0xFFFF && (a == 0 || b == 0) }

func TestFixedIsTheChangedBytesChecksum(t *testing.T) {
	r := rand.New(rand.NewSource(4))
	for range 20000 {
		b := make([]byte, 4+2*r.Intn(6))
		for at := 0; at < len(b); at += 2 {
			put16(b, at, edges[r.Intn(len(edges))])
		}
		sumAt, at := 0, 2+2*r.Intn(len(b)/2-1)
		s := summed(b, sumAt)
		if s == 0xFFFF {
			continue
		}
		old, now := uint16(b[at])<<8|uint16(b[at+1]), edges[r.Intn(len(edges))]
		changed := bytes.Clone(b)
		put16(changed, at, now)
		want := summed(changed, sumAt)
		if got := sum.Fix(s, old, now); !alike(got, want) {
			t.Fatalf("%x, at %d now %x: %x, not %x", b, at, now, got, want)
		}
	}
}

func TestFixedWideIsTheChangedBytesChecksum(t *testing.T) {
	r := rand.New(rand.NewSource(5))
	for range 5000 {
		b := make([]byte, 12)
		r.Read(b)
		s := summed(b, 10)
		if s == 0xFFFF {
			continue
		}
		old, now := uint32(b[4])<<24|uint32(b[5])<<16|uint32(b[6])<<8|uint32(b[7]), r.Uint32()
		changed := bytes.Clone(b)
		put16(changed, 4, uint16(now>>16))
		put16(changed, 6, uint16(now))
		want := summed(changed, 10)
		if got := sum.FixWide(s, old, now); !alike(got, want) {
			t.Fatalf("%x now %x: %x, not %x", b, now, got, want)
		}
	}
}

func TestNothingHandedInIsChanged(t *testing.T) {
	for _, length := range []int{0, 1, 2, 5, 8} {
		all := []byte{1, 2, 3, 4, 5, 6, 7, 8, 9, 10}
		was := bytes.Clone(all)
		sum.Of(all[:length])
		sum.More(9, all[:length])
		if !bytes.Equal(all, was) {
			t.Errorf("of %d bytes: %x", length, all)
		}
	}
}
