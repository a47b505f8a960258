package rewrite_test

import (
	"bytes"
	"testing"

	"fanlight/api"
	"fanlight/head"
	"fanlight/part"
	"fanlight/rewrite"
)

const (
	inside  = 0x0A000001
	outer   = 0xC0000201
	far     = 0x08080404
	midway  = 0x05060708 // who tells an error
	ownPort = 5
	farPort = 53
)

func put16(b []byte, at int, n uint16) { b[at], b[at+1] = byte(n>>8), byte(n) }

func put32(b []byte, at int, n uint32) {
	put16(b, at, uint16(n>>16))
	put16(b, at+2, uint16(n))
}

func get16(b []byte, at int) uint16 { return uint16(b[at])<<8 | uint16(b[at+1]) }

// folded tells by a remainder what the program tells by carries.
func folded(n uint64) uint64 {
	if n == 0 {
		return 0
	}
	return (n-1)%65535 + 1
}

func checksum(lists ...[]byte) uint16 {
	n := uint64(0)
	for i, x := range bytes.Join(lists, nil) {
		n += uint64(x) << (8 * (1 - i%2))
	}
	return uint16(65535 - folded(n))
}

// packet is a packet of IP version 4, whose head has size bytes, of which those beyond 20 are options.
func packet(size, proto int, src, dst uint32, carried []byte) []byte {
	b := make([]byte, size)
	for i := range b {
		b[i] = byte(i*31 + 7)
	}
	b[0] = byte(0x40 | size/4)
	put16(b, 2, uint16(size+len(carried)))
	put16(b, 6, 0x4000)
	b[8], b[9] = 33, byte(proto)
	put32(b, 12, src)
	put32(b, 16, dst)
	resumHead(b)
	return append(b, carried...)
}

func resumHead(b []byte) {
	size := min(int(b[0]&15)*4, len(b))
	put16(b, 10, 0)
	put16(b, 10, checksum(b[:size]))
}

// resumCarried makes the sum of what is carried right again, wherever there is room for it.
func resumCarried(b []byte) {
	size := int(b[0]&15) * 4
	c := b[min(size, len(b)):]
	ahead := append(bytes.Clone(b[12:20]), 0, b[9], byte(len(c)>>8), byte(len(c)))
	sumAt := map[byte]int{1: 2, 6: 16, 17: 6}[b[9]]
	if sumAt == 0 || len(c) < sumAt+2 {
		return
	}
	put16(c, sumAt, 0)
	if b[9] == 1 {
		ahead = nil
	}
	put16(c, sumAt, checksum(ahead, c))
}

// way is a direction: the call, and where in a packet the end stands that it changes.
type way struct {
	what                       string
	do                         func(b []byte, addr uint32, port uint16) ([]byte, api.Errno)
	addrAt, portAt             int
	addrInError, portInError   int
	headAddr, headAddrInError  func(h *head.Head) *uint32
	carriedPort, portAboutThat func(p *part.Part) *uint16
}

func srcOf(h *head.Head) *uint32     { return &h.Src }
func dstOf(h *head.Head) *uint32     { return &h.Dst }
func srcPortOf(p *part.Part) *uint16 { return &p.SrcPort }
func dstPortOf(p *part.Part) *uint16 { return &p.DstPort }

var ways = []way{
	{"Out", rewrite.Out, 12, 0, 16, 2, srcOf, dstOf, srcPortOf, dstPortOf},
	{"In", rewrite.In, 16, 2, 12, 0, dstOf, srcOf, dstPortOf, srcPortOf},
}

// mend lays at f[sumAt] the sum that stood there in b, mended by the words that stand at these places in b and f.
func mend(f, b []byte, sumAt int, words ...int) {
	n := 65535 - uint64(get16(b, sumAt))
	for _, at := range words {
		n += 65535 - uint64(get16(b, at)) + uint64(get16(f, at))
	}
	put16(f, sumAt, uint16(65535-folded(n)))
}

func turnNought(f []byte, at int) {
	if get16(f, at) == 0 {
		put16(f, at, 0xFFFF)
	}
}

// told is what the chapter asks of a frame that can be got.
func (w way) told(b []byte, addr uint32, port uint16) []byte {
	f := bytes.Clone(b[:get16(b, 2)])
	size := int(b[0]&15) * 4
	put32(f, w.addrAt, addr)
	mend(f, b, 10, w.addrAt, w.addrAt+2)
	kind := b[size]
	if b[9] != 1 || kind == 0 || kind == 8 {
		tellCarried(f, b, size, len(f), b[9], w.addrAt, w.portAt, port)
		return f
	}
	begin := size + 8
	addrAt := begin + w.addrInError
	put32(f, addrAt, addr)
	mend(f, b, begin+10, addrAt, addrAt+2)
	over := min(begin+int(get16(b, begin+2)), len(f))
	tellCarried(f, b, begin+int(b[begin]&15)*4, over, b[begin+9], addrAt, w.portInError, port)
	put16(f, size+2, 0)
	put16(f, size+2, checksum(f[size:]))
	return f
}

// tellCarried does so with what begins at at and ends at over.
func tellCarried(f, b []byte, at, over int, proto byte, addrAt, portAt int, port uint16) {
	switch proto {
	case 1:
		put16(f, at+4, port)
		mend(f, b, at+2, at+4)
		turnNought(f, at+2)
	case 6:
		put16(f, at+portAt, port)
		if at+18 <= over {
			mend(f, b, at+16, addrAt, addrAt+2, at+portAt)
		}
	case 17:
		put16(f, at+portAt, port)
		if get16(b, at+6) != 0 {
			mend(f, b, at+6, addrAt, addrAt+2, at+portAt)
			turnNought(f, at+6)
		}
	}
}

func gotFrame(b []byte) (head.Head, part.Part, api.Errno) {
	h, e := head.Get(b)
	if e != api.OK {
		return head.Head{}, part.Part{}, e
	}
	p, e := part.Get(h, b)
	return h, p, e
}

// wanted is what is to be got of a frame behind the call, if h and p were got ahead of it.
func (w way) wanted(h head.Head, p part.Part, addr uint32, port uint16) (head.Head, part.Part) {
	*w.headAddr(&h) = addr
	isEcho := h.Proto == api.Icmp
	if p.Error {
		*w.headAddrInError(&p.Inner) = addr
		isEcho = p.Inner.Proto == api.Icmp
	}
	switch {
	case isEcho:
		p.SrcPort, p.DstPort = port, port
	case p.Error:
		*w.portAboutThat(&p) = port
	default:
		*w.carriedPort(&p) = port
	}
	return h, p
}

// check holds a call's answer against what is asked, to the byte and as it is got again.
func (w way) check(t *testing.T, what string, b []byte, addr uint32, port uint16) {
	t.Helper()
	h, p, e := gotFrame(b)
	f, g := w.do(b, addr, port)
	if e != api.OK {
		if g != e || len(f) != 0 {
			t.Fatalf("%s of %s: %x, error %d, not %d", w.what, what, f, g, e)
		}
		return
	}
	if want := w.told(b, addr, port); g != api.OK || !bytes.Equal(f, want) {
		t.Fatalf("%s of %s (%x) by %x, %x: error %d, %x, not %x", w.what, what, b, addr, port, g, f, want)
	}
	wantHead, wantPart := w.wanted(h, p, addr, port)
	nowHead, nowPart, e := gotFrame(f)
	if e != api.OK || nowHead != wantHead || nowPart != wantPart {
		t.Fatalf("%s of %s by %x, %x: got again %+v %+v %d, not %+v %+v", w.what, what, addr, port, nowHead, nowPart, e, wantHead, wantPart)
	}
}

type sample struct {
	what  string
	proto int
	b     []byte
}

// carriers are packets of all kinds from src to dst, with heads of several lengths.
func carriers(src, dst uint32) []sample {
	var all []sample
	for _, size := range []int{20, 24, 60} {
		for _, data := range [][]byte{nil, {7}, []byte("some data"), bytes.Repeat([]byte{0xFF}, 64)} {
			udp := part.Udp(src, dst, ownPort, farPort, data)
			bare := bytes.Clone(udp)
			put16(bare, 6, 0)
			long := part.Tcp(src, dst, ownPort, farPort, part.Syn, append([]byte{2, 4, 5, 0xB4}, data...))
			long[12] = 0x60
			longer := packet(size, api.Tcp, src, dst, long)
			resumCarried(longer)
			all = append(all,
				sample{"UDP", api.Udp, packet(size, api.Udp, src, dst, udp)},
				sample{"bare UDP", api.Udp, packet(size, api.Udp, src, dst, bare)},
				sample{"TCP", api.Tcp, packet(size, api.Tcp, src, dst, part.Tcp(src, dst, ownPort, farPort, 0xFF, data))},
				sample{"TCP with options", api.Tcp, longer},
				sample{"an echo", api.Icmp, packet(size, api.Icmp, src, dst, part.Echo(false, ownPort, data))},
				sample{"a reply", api.Icmp, packet(size, api.Icmp, src, dst, part.Echo(true, ownPort, data))},
			)
		}
	}
	return all
}

// faults are errors from src to dst, about packets that went from dst to src, cut here and there.
func faults(src, dst uint32) []sample {
	var all []sample
	for i, c := range carriers(dst, src) {
		innerSize := int(c.b[0]&15) * 4
		for _, left := range []int{8, 9, 15, 16, 17, 18, 19, 20, 21, len(c.b)} {
			about := c.b[:min(innerSize+left, len(c.b))]
			carried := part.Fault([]int{3, 11, 12}[i%3], i%256, about)
			size := []int{20, 28, 60}[left%3]
			all = append(all, sample{"an error about " + c.what, api.Icmp, packet(size, api.Icmp, src, dst, carried)})
		}
	}
	return all
}

func samples() []sample {
	return append(carriers(inside, far), faults(inside, far)...)
}
