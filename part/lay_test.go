package part_test

import (
	"bytes"
	"math"
	"math/rand"
	"testing"

	"fanlight/api"
	"fanlight/head"
	"fanlight/part"
)

const (
	here  = 0x0A000001
	there = 0xC00002FF
)

func put16(b []byte, at int, n uint16) { b[at], b[at+1] = byte(n>>8), byte(n) }

func get16(b []byte, at int) uint16 { return uint16(b[at])<<8 | uint16(b[at+1]) }

// checksum is told by a remainder, where the program tells it by carries.
func checksum(lists ...[]byte) uint16 {
	n := uint64(0)
	for i, x := range bytes.Join(lists, nil) {
		n += uint64(x) << (8 * (1 - i%2))
	}
	if n == 0 {
		return 0xFFFF
	}
	return uint16(65535 - ((n-1)%65535 + 1))
}

// ahead is what stands ahead of UDP's and TCP's bytes in their sum.
func ahead(src, dst uint32, proto byte, c []byte) []byte {
	return []byte{
		byte(src >> 24), byte(src >> 16), byte(src >> 8), byte(src),
		byte(dst >> 24), byte(dst >> 16), byte(dst >> 8), byte(dst),
		0, proto, byte(len(c) >> 8), byte(len(c)),
	}
}

// frame is what is carried, behind a plain head.
func frame(t *testing.T, proto int, c []byte) (head.Head, []byte) {
	t.Helper()
	b, e := head.Put(head.Head{Ttl: 9, Proto: proto, Src: here, Dst: there}, c)
	if e != api.OK {
		t.Fatal("head.Put:", e)
	}
	h, e := head.Get(b)
	if e != api.OK {
		t.Fatal("head.Get:", e)
	}
	return h, b
}

// got is what part.Get tells of what is carried.
func got(t *testing.T, proto int, c []byte) (part.Part, api.Errno) {
	t.Helper()
	h, b := frame(t, proto, c)
	p, e := part.Get(h, b)
	if e != api.OK && p != (part.Part{}) {
		t.Errorf("beside error %d: %+v", e, p)
	}
	return p, e
}

func wantPart(t *testing.T, what string, proto int, c []byte, want part.Part) {
	t.Helper()
	if p, e := got(t, proto, c); e != api.OK || p != want {
		t.Errorf("%s: %+v %d, not %+v", what, p, e, want)
	}
}

func wantError(t *testing.T, what string, proto int, c []byte, want api.Errno) {
	t.Helper()
	if _, e := got(t, proto, c); e != want {
		t.Errorf("%s: error %d, not %d", what, e, want)
	}
}

func random(r *rand.Rand, n int) []byte {
	b := make([]byte, n)
	r.Read(b)
	return b
}

func TestLaidBytes(t *testing.T) {
	for _, c := range []struct {
		what string
		b    []byte
		want string
	}{
		{"Echo", part.Echo(false, 5, nil), "\x08\x00\xF7\xFA\x00\x05\x00\x00"},
		{"a reply", part.Echo(true, 5, []byte{1}), "\x00\x00\xFE\xFA\x00\x05\x00\x00\x01"},
		{"all noughts", part.Echo(true, 0, nil), "\x00\x00\xFF\xFF\x00\x00\x00\x00"},
		{"Udp", part.Udp(1, 2, 5, 53, []byte("hi")), "\x00\x05\x00\x35\x00\x0A\x97\x34hi"},
		{"Tcp", part.Tcp(1, 2, 5, 53, part.Syn|part.Ack, nil), "\x00\x05\x00\x35\x00\x00\x00\x00\x00\x00\x00\x00\x50\x12\x20\x00\x8F\x96\x00\x00"},
		{"Fault", part.Fault(3, 1, []byte{0xAB, 0xCD}), "\x03\x01\x51\x31\x00\x00\x00\x00\xAB\xCD"},
	} {
		if string(c.b) != c.want {
			t.Errorf("%s: %x, not %x", c.what, c.b, c.want)
		}
	}
}

func TestLaidSums(t *testing.T) {
	r := rand.New(rand.NewSource(1))
	for range 3000 {
		b := random(r, r.Intn(30))
		src, dst := r.Uint32(), r.Uint32()
		from, to, flags := uint16(r.Uint32()), uint16(r.Uint32()), r.Intn(256)
		u := part.Udp(src, dst, from, to, b)
		if checksum(ahead(src, dst, 17, u), u) != 0 || get16(u, 6) == 0 || !bytes.Equal(u[8:], b) {
			t.Fatalf("Udp: %x", u)
		}
		c := part.Tcp(src, dst, from, to, flags, b)
		if checksum(ahead(src, dst, 6, c), c) != 0 || !bytes.Equal(c[20:], b) {
			t.Fatalf("Tcp: %x", c)
		}
		for _, x := range [][]byte{part.Echo(flags%2 == 0, from, b), part.Fault(flags, flags+1, b)} {
			if checksum(x) != 0 || !bytes.Equal(x[8:], b) {
				t.Fatalf("ICMP: %x", x)
			}
		}
	}
}

// filler is the two bytes by which a sum of what is laid around them comes to nought.
func filler(lay func(b []byte) []byte, sumAt int) []byte {
	s := get16(lay([]byte{0, 0}), sumAt)
	return []byte{byte(s >> 8), byte(s)}
}

func TestUdpSumOfNoughtIsLaidTurned(t *testing.T) {
	udp := func(b []byte) []byte { return part.Udp(here, there, 5, 53, b) }
	u := udp(filler(udp, 6))
	if get16(u, 6) != 0xFFFF {
		t.Errorf("UDP's sum: %x", u)
	}
	wantPart(t, "UDP", api.Udp, u, part.Part{Proto: 17, SrcPort: 5, DstPort: 53})
	tcp := func(b []byte) []byte { return part.Tcp(here, there, 5, 53, 0, b) }
	c := tcp(filler(tcp, 16))
	if get16(c, 16) != 0 {
		t.Errorf("TCP's sum: %x", c)
	}
	wantPart(t, "TCP", api.Tcp, c, part.Part{Proto: 6, SrcPort: 5, DstPort: 53})
	echo := func(b []byte) []byte { return part.Echo(false, 5, b) }
	x := echo(filler(echo, 2))
	if get16(x, 2) != 0 {
		t.Errorf("ICMP's sum: %x", x)
	}
	wantPart(t, "ICMP", api.Icmp, x, part.Part{Proto: 1, SrcPort: 5, DstPort: 5, Kind: 8})
}

func TestOnlySoManyBytesAreUsed(t *testing.T) {
	r := rand.New(rand.NewSource(2))
	for _, n := range []int{0, 1399, 1400, 1401, 70000} {
		b := random(r, n)
		used := b[:min(n, 1400)]
		for _, c := range []struct {
			what          string
			long, allUsed []byte
			size          int
		}{
			{"Udp", part.Udp(here, there, 5, 6, b), part.Udp(here, there, 5, 6, used), 8},
			{"Tcp", part.Tcp(here, there, 5, 6, 7, b), part.Tcp(here, there, 5, 6, 7, used), 20},
			{"Echo", part.Echo(true, 5, b), part.Echo(true, 5, used), 8},
			{"Fault", part.Fault(3, 4, b), part.Fault(3, 4, used), 8},
		} {
			if !bytes.Equal(c.long, c.allUsed) || len(c.long) != c.size+len(used) {
				t.Errorf("%s of %d bytes: %d bytes", c.what, n, len(c.long))
			}
		}
	}
}

func TestLowestBitsAreLaid(t *testing.T) {
	for _, c := range []struct {
		n    int
		want byte
	}{{0, 0}, {255, 255}, {256, 0}, {259, 3}, {-1, 255}, {math.MaxInt, 255}, {math.MinInt, 0}} {
		if b := part.Tcp(1, 2, 3, 4, c.n, nil); b[13] != c.want || checksum(ahead(1, 2, 6, b), b) != 0 {
			t.Errorf("flags %d: %x", c.n, b)
		}
		if b := part.Fault(c.n, 7, nil); b[0] != c.want || b[1] != 7 || checksum(b) != 0 {
			t.Errorf("kind %d: %x", c.n, b)
		}
		if b := part.Fault(7, c.n, nil); b[0] != 7 || b[1] != c.want || checksum(b) != 0 {
			t.Errorf("code %d: %x", c.n, b)
		}
	}
}

func TestLaidIsGotAgain(t *testing.T) {
	r := rand.New(rand.NewSource(3))
	for _, n := range []int{0, 1, 2, 9, 1399, 1400, 1500} {
		for range 30 {
			b := random(r, n)
			from, to, flags := uint16(r.Uint32()), uint16(r.Uint32()), r.Intn(256)
			wantPart(t, "Udp", api.Udp, part.Udp(here, there, from, to, b),
				part.Part{Proto: 17, SrcPort: from, DstPort: to})
			wantPart(t, "Tcp", api.Tcp, part.Tcp(here, there, from, to, flags, b),
				part.Part{Proto: 6, SrcPort: from, DstPort: to, Flags: flags})
			wantPart(t, "Echo", api.Icmp, part.Echo(false, from, b),
				part.Part{Proto: 1, SrcPort: from, DstPort: from, Kind: 8})
			wantPart(t, "a reply", api.Icmp, part.Echo(true, to, b),
				part.Part{Proto: 1, SrcPort: to, DstPort: to})
		}
	}
}

func TestLaidFaultIsGotAgain(t *testing.T) {
	for _, kind := range []int{3, 11, 12} {
		for _, n := range []int{0, 3, 1372, 1400} {
			h, about := frame(t, api.Udp, part.Udp(here, there, 5, 53, make([]byte, n)))
			wantPart(t, "Fault", api.Icmp, part.Fault(kind, n%256, about), part.Part{
				Proto: 1, Kind: kind, Code: n % 256, Error: true, Inner: h, At: 28, SrcPort: 5, DstPort: 53,
			})
		}
	}
}

func TestNothingHandedInIsChangedOrKept(t *testing.T) {
	all := []byte("some bytes, and spare room")
	was := bytes.Clone(all)
	b := all[:10]
	laid := [][]byte{part.Udp(1, 2, 3, 4, b), part.Tcp(1, 2, 3, 4, 5, b), part.Echo(true, 1, b), part.Fault(3, 1, b)}
	for i, l := range laid {
		if !bytes.Equal(all, was) {
			t.Fatalf("%d: changed: %q", i, all)
		}
		first := bytes.Clone(l)
		clear(all)
		if !bytes.Equal(l, first) {
			t.Errorf("%d: what was laid hangs on what was handed in", i)
		}
		clear(l)
		copy(all, was)
	}
	h, f := frame(t, api.Icmp, part.Fault(3, 1, inner(20, 28, 17)))
	spare := append(f, 1, 2, 3)
	was = bytes.Clone(spare)
	if _, e := part.Get(h, spare[:len(f)]); e != api.OK || !bytes.Equal(spare, was) {
		t.Errorf("Get: %d, %x", e, spare)
	}
}
