package part_test

import (
	"bytes"
	"math"
	"math/rand"
	"testing"

	"fanlight/api"
	"fanlight/head"
	"fanlight/part"
)

// resumIcmp makes an ICMP message's sum right again.
func resumIcmp(c []byte) []byte {
	put16(c, 2, 0)
	put16(c, 2, checksum(c))
	return c
}

// resumWith makes the sum of UDP or TCP right again.
func resumWith(proto byte, at int, c []byte) []byte {
	put16(c, at, 0)
	put16(c, at, checksum(ahead(here, there, proto, c), c))
	return c
}

func TestGetRefusesHeadsThatCantBe(t *testing.T) {
	good, b := frame(t, api.Udp, part.Udp(here, there, 5, 53, make([]byte, 60)))
	for _, c := range []struct {
		size, length int
		want         api.Errno
	}{
		{20, len(b), api.OK},
		{19, len(b), api.ErrArg},
		{61, len(b), api.ErrArg},
		{0, 0, api.ErrArg},
		{-20, len(b), api.ErrArg},
		{20, 19, api.ErrArg},
		{20, len(b) + 1, api.ErrArg},
		{20, -1, api.ErrArg},
		{60, 59, api.ErrArg},
		{20, 20, api.ErrShort},
		{60, 60, api.ErrShort},
		{60, len(b), api.ErrForm},
		{math.MinInt, math.MaxInt, api.ErrArg},
		{math.MaxInt, math.MinInt, api.ErrArg},
		{20, math.MaxInt, api.ErrArg},
	} {
		h := good
		h.Size, h.Len = c.size, c.length
		if p, e := part.Get(h, b); e != c.want || e != api.OK && p != (part.Part{}) {
			t.Errorf("%d to %d: %+v %d, not %d", c.size, c.length, p, e, c.want)
		}
		h.Proto = 99
		want := api.ErrProto
		if c.want == api.ErrArg {
			want = api.ErrArg
		}
		if _, e := part.Get(h, b); e != want {
			t.Errorf("%d to %d, of no known protocol: %d, not %d", c.size, c.length, e, want)
		}
	}
	if _, e := part.Get(good, nil); e != api.ErrArg {
		t.Error("nil:", e)
	}
}

func TestGetLooksOnlyAtWhatIsCarried(t *testing.T) {
	h, b := frame(t, api.Tcp, part.Tcp(here, there, 5, 53, 0x1F, []byte("hi")))
	want := part.Part{Proto: 6, SrcPort: 5, DstPort: 53, Flags: 0x1F}
	long := append(bytes.Clone(b), 1, 2, 3)
	for i := range h.Size {
		long[i] = 0xEE
	}
	if p, e := part.Get(h, long); e != api.OK || p != want {
		t.Errorf("%+v %d", p, e)
	}
	h.Size, h.Len = 24, h.Len+4
	options := append(make([]byte, 24), b[20:]...)
	if p, e := part.Get(h, options); e != api.OK || p != want {
		t.Errorf("behind a longer head: %+v %d", p, e)
	}
	h.Src++
	if _, e := part.Get(h, options); e != api.ErrSum {
		t.Error("another source:", e)
	}
}

func TestGetKnowsThreeProtocols(t *testing.T) {
	for _, proto := range []int{0, 2, 4, 5, 7, 16, 18, 99, 255} {
		wantError(t, "a protocol", proto, make([]byte, 40), api.ErrProto)
	}
	_, b := frame(t, api.Udp, nil)
	for _, proto := range []int{-1, 256 + 17, 1 << 40} {
		if _, e := part.Get(head.Head{Size: 20, Len: 20, Proto: proto}, b); e != api.ErrProto {
			t.Errorf("protocol %d: %d", proto, e)
		}
	}
}

func TestGetUdp(t *testing.T) {
	good := part.Udp(here, there, 5, 53, []byte("four"))
	for n := range 8 {
		wantError(t, "few bytes", api.Udp, good[:n], api.ErrShort)
	}
	for _, length := range []uint16{0, 8, 11, 13, 65535} {
		c := bytes.Clone(good)
		put16(c, 4, length)
		wantError(t, "its length", api.Udp, resumWith(17, 6, c), api.ErrForm)
		put16(c, 6, 0)
		wantError(t, "its length, without a sum", api.Udp, c, api.ErrForm)
		c[11] ^= 1
		put16(c, 6, 1)
		wantError(t, "its length ahead of its sum", api.Udp, c, api.ErrForm)
	}
	for at := range good {
		c := bytes.Clone(good)
		c[at] ^= 2
		want := api.ErrSum
		if at == 4 || at == 5 {
			want = api.ErrForm
		}
		wantError(t, "a byte", api.Udp, c, want)
	}
	bare := bytes.Clone(good)
	put16(bare, 6, 0)
	wantPart(t, "without a sum", api.Udp, bare, part.Part{Proto: 17, SrcPort: 5, DstPort: 53, Bare: true})
	least := part.Udp(here, there, 0xFFFE, 0, nil)
	wantPart(t, "8 bytes", api.Udp, least, part.Part{Proto: 17, SrcPort: 0xFFFE})
}

func TestGetTcp(t *testing.T) {
	good := part.Tcp(here, there, 5, 53, 0xC2, []byte("four"))
	for n := range 20 {
		wantError(t, "few bytes", api.Tcp, good[:n], api.ErrShort)
	}
	for words := range 16 {
		c := bytes.Clone(good)
		c[12] = byte(words<<4 | 0xF)
		spoiled := bytes.Clone(c)
		spoiled[23] ^= 1
		resumWith(6, 16, c)
		if words == 5 || words == 6 {
			wantPart(t, "its head", api.Tcp, c, part.Part{Proto: 6, SrcPort: 5, DstPort: 53, Flags: 0xC2})
			wantError(t, "its sum", api.Tcp, spoiled, api.ErrSum)
			continue
		}
		wantError(t, "its head", api.Tcp, c, api.ErrForm)
		wantError(t, "its head ahead of its sum", api.Tcp, spoiled, api.ErrForm)
	}
	for at := range good {
		c := bytes.Clone(good)
		c[at] ^= 2
		wantError(t, "a byte", api.Tcp, c, api.ErrSum)
	}
	none := bytes.Clone(good)
	put16(none, 16, 0)
	wantError(t, "without a sum", api.Tcp, none, api.ErrSum)
}

func TestGetTcpOfManyBytes(t *testing.T) {
	c := bytes.Repeat([]byte{3, 0x50}, 33000)
	c[12] = 0x50
	resumWith(6, 16, c)
	b := append(make([]byte, 20), c...)
	h := head.Head{Size: 20, Len: len(b), Proto: 6, Src: here, Dst: there}
	if p, e := part.Get(h, b); e != api.OK || p.SrcPort != 0x0350 {
		t.Errorf("%+v %d", p, e)
	}
}

func TestGetEchoes(t *testing.T) {
	for n := range 8 {
		wantError(t, "few bytes", api.Icmp, part.Echo(false, 5, nil)[:n], api.ErrShort)
	}
	for kind := range 256 {
		for _, code := range []byte{0, 1, 255} {
			c := resumIcmp([]byte{byte(kind), code, 0, 0, 0x12, 0x34, 0x56, 0x78, 9})
			broken := bytes.Clone(c)
			broken[3] ^= 1
			wantError(t, "its sum", api.Icmp, broken, api.ErrSum)
			switch {
			case kind == 3 || kind == 11 || kind == 12:
				wantError(t, "an error about too little", api.Icmp, c, api.ErrShort)
			case kind != 0 && kind != 8:
				wantError(t, "its type", api.Icmp, c, api.ErrProto)
			case code != 0:
				wantError(t, "its code", api.Icmp, c, api.ErrForm)
			default:
				wantPart(t, "an echo", api.Icmp, c, part.Part{Proto: 1, Kind: kind, SrcPort: 0x1234, DstPort: 0x1234})
			}
		}
	}
}

// inner is a packet's begin, with a head of size bytes that says length, and 8 bytes.
func inner(size, length, proto int) []byte {
	b := make([]byte, size)
	b[0] = byte(0x40 | size/4)
	put16(b, 2, uint16(length))
	b[8], b[9] = 3, byte(proto)
	copy(b[12:], []byte{10, 0, 0, 1, 192, 0, 2, 255})
	return append(b, 8, 0x11, 0x22, 0x33, 0x44, 0x55, 0x66, 0x77)
}

func TestGetErrors(t *testing.T) {
	for _, kind := range []int{3, 11, 12} {
		for _, c := range []struct {
			proto    int
			src, dst uint16
		}{{17, 0x0811, 0x2233}, {6, 0x0811, 0x2233}, {1, 0x4455, 0x4455}} {
			for _, size := range []int{20, 24, 60} {
				for _, length := range []int{size + 8, size + 9, 1501, 65535} {
					want := part.Part{
						Proto: 1, Kind: kind, Code: 200, Error: true, At: 28, SrcPort: c.src, DstPort: c.dst,
						Inner: head.Head{Size: size, Len: length, Ttl: 3, Proto: c.proto, Src: here, Dst: there},
					}
					about := inner(size, length, c.proto)
					wantPart(t, "an error", api.Icmp, part.Fault(kind, 200, about), want)
					wantPart(t, "an error about more", api.Icmp, part.Fault(kind, 200, append(about, 1, 2, 3)), want)
				}
			}
		}
	}
}

func TestGetErrorBehindALongerHead(t *testing.T) {
	c := part.Fault(11, 0, inner(20, 28, 17))
	b := append(make([]byte, 36), c...)
	h := head.Head{Size: 36, Len: len(b), Proto: 1}
	if p, e := part.Get(h, b); e != api.OK || p.At != 44 || p.Inner.Src != here {
		t.Errorf("%+v %d", p, e)
	}
}

func TestGetErrorEndsWithItsPacket(t *testing.T) {
	about := inner(20, 28, 17)
	c := part.Fault(11, 0, about[:27])
	b := append(append(make([]byte, 20), c...), about[27:]...)
	h := head.Head{Size: 20, Len: len(b) - 1, Proto: 1}
	if _, e := part.Get(h, b); e != api.ErrForm {
		t.Errorf("a byte behind the packet was taken for its own: %d", e)
	}
}

// spoil is one thing that is wrong with the packet that an error is about; they stand in the order in which they are looked for.
type spoil struct {
	what string
	want api.Errno
	do   func(b []byte) []byte
}

func cutTo(n int) func([]byte) []byte {
	return func(b []byte) []byte { return b[:min(n, len(b))] }
}

var spoils = []spoil{
	{"fewer than 20 bytes", api.ErrShort, cutTo(19)},
	{"version", api.ErrForm, func(b []byte) []byte { b[0] ^= 0x20; return b }},
	{"a head that isn't there", api.ErrShort, cutTo(23)},
	{"a packet shorter than its head", api.ErrForm, func(b []byte) []byte { put16(b, 2, 23); return b }},
	{"a piece", api.ErrFragment, func(b []byte) []byte { b[7] = 1; return b }},
	{"7 bytes behind its head", api.ErrForm, cutTo(31)},
	{"its protocol", api.ErrProto, func(b []byte) []byte { b[9] = 2; return b }},
}

func TestGetTellsTheFirstFaultOfWhatAnErrorIsAbout(t *testing.T) {
	for _, proto := range []int{17, 6, 1} {
		for bits := range 1 << len(spoils) {
			b, want := inner(24, 32, proto), api.OK
			for i := len(spoils) - 1; i >= 0; i-- {
				if bits>>i&1 == 1 {
					b, want = spoils[i].do(b), spoils[i].want
				}
			}
			wantError(t, "an error", api.Icmp, part.Fault(3, 1, b), want)
		}
	}
}

func TestGetWantsEightBytesInWhatAnErrorIsAbout(t *testing.T) {
	for _, proto := range []int{17, 6, 1, 2} {
		for _, size := range []int{20, 60} {
			for behind := range 8 {
				wantError(t, "bytes that are there", api.Icmp, part.Fault(3, 1, inner(size, 100, proto)[:size+behind]), api.ErrForm)
				wantError(t, "bytes that its length tells", api.Icmp, part.Fault(3, 1, inner(size, size+behind, proto)), api.ErrForm)
			}
		}
	}
}

func TestGetKnowsWhatAnErrorMayBeAbout(t *testing.T) {
	for proto := range 256 {
		want := api.ErrProto
		if proto == 1 || proto == 6 || proto == 17 {
			want = api.OK
		}
		wantError(t, "its protocol", api.Icmp, part.Fault(3, 1, inner(20, 28, proto)), want)
	}
	for kind := range 256 {
		want := api.ErrProto
		if kind == 0 || kind == 8 {
			want = api.OK
		}
		b := inner(20, 28, 1)
		b[20] = byte(kind)
		wantError(t, "its type", api.Icmp, part.Fault(3, 1, b), want)
	}
	c := part.Fault(3, 1, inner(20, 28, 17))
	c[9] ^= 1
	wantError(t, "an error's sum", api.Icmp, c, api.ErrSum)
	for n := range 20 {
		wantError(t, "an error about too little", api.Icmp, part.Fault(12, 0, inner(20, 28, 17)[:n]), api.ErrShort)
	}
}

// almost is bytes that are now and then nearly right.
func almost(r *rand.Rand, proto int) []byte {
	c := random(r, r.Intn(64))
	if len(c) > 13 && r.Intn(2) == 0 {
		c[0] = []byte{0, 3, 8, 11, 12}[r.Intn(5)]
		c[8], c[12] = byte(0x40|r.Intn(16)), byte(r.Intn(256))
		put16(c, 4, uint16(len(c)))
	}
	if len(c) >= 18 && r.Intn(4) > 0 {
		c[17] = []byte{1, 6, 17, 4}[r.Intn(4)]
		switch proto {
		case 1:
			resumIcmp(c)
		case 6:
			resumWith(6, 16, c)
		case 17:
			resumWith(17, 6, c)
		}
	}
	return c
}

func TestAllBytesAreAnswered(t *testing.T) {
	r := rand.New(rand.NewSource(4))
	ends := []int{math.MinInt, -1, 0, 19, 20, 21, 60, 61, math.MaxInt}
	for range 100000 {
		proto := []int{1, 6, 17, r.Intn(300) - 20}[r.Intn(4)]
		c := almost(r, proto)
		b := append(make([]byte, 20), c...)
		h := head.Head{Size: 20, Len: len(b), Proto: proto, Src: here, Dst: there}
		if r.Intn(8) == 0 {
			h.Size, h.Len = ends[r.Intn(len(ends))], ends[r.Intn(len(ends))]
		}
		p, e := part.Get(h, b)
		if e != api.OK && p != (part.Part{}) {
			t.Fatalf("%x: beside error %d %+v", b, e, p)
		}
		if e == api.OK && p.Proto != proto {
			t.Fatalf("%x: %+v", b, p)
		}
	}
}
