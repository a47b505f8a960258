package rewrite_test

import (
	"bytes"
	"math/rand"
	"testing"

	"fanlight/api"
	"fanlight/head"
	"fanlight/part"
	"fanlight/rewrite"
)

var addrs = []uint32{outer, inside, far, 0, 1, 0xFFFF, 0x10000, 0xFFFF0000, 0xFFFFFFFE, 0xFFFFFFFF}

var ports = []uint16{4000, ownPort, farPort, 0, 1, 0x00FF, 0xFF00, 0xFFFE, 0xFFFF}

// plain is a frame with a plain head.
func plain(proto int, src, dst uint32, carried []byte) []byte {
	b, _ := head.Put(head.Head{Ttl: 9, Proto: proto, Src: src, Dst: dst}, carried)
	return b
}

func mustDo(t *testing.T, f []byte, e api.Errno) []byte {
	t.Helper()
	if e != api.OK {
		t.Fatal("error", e)
	}
	return f
}

func wantBytes(t *testing.T, what string, f, want []byte) {
	t.Helper()
	if !bytes.Equal(f, want) {
		t.Errorf("%s: %x, not %x", what, f, want)
	}
}

func TestOutOfUdpToTheByte(t *testing.T) {
	b := []byte("\x45\x00\x00\x1E\x00\x00\x40\x00\x09\x11\x5B\xC3\x0A\x00\x00\x01\x08\x08\x04\x04\x00\x05\x00\x35\x00\x0A\x81\x2A" + "hi")
	want := []byte("\x45\x00\x00\x1E\x00\x00\x40\x00\x09\x11\xA3\xC2\xC0\x00\x02\x01\x08\x08\x04\x04\x0F\xA0\x00\x35\x00\x0A\xB9\x8E" + "hi")
	f, e := rewrite.Out(b, outer, 4000)
	wantBytes(t, "Out", mustDo(t, f, e), want)
	f, e = rewrite.Out(want, inside, 5)
	wantBytes(t, "back", mustDo(t, f, e), b)
}

// TestRewrittenIsAsIfLaidAnew needs no mending to know what is right: the frame is laid with the other address and port at once.
func TestRewrittenIsAsIfLaidAnew(t *testing.T) {
	r := rand.New(rand.NewSource(1))
	for range 3000 {
		src, dst, addr := r.Uint32(), r.Uint32(), r.Uint32()
		from, to, port := uint16(r.Uint32()), uint16(r.Uint32()), uint16(r.Uint32())
		data := make([]byte, r.Intn(40))
		r.Read(data)
		udp := func(s, d uint32, f, g uint16) []byte { return plain(17, s, d, part.Udp(s, d, f, g, data)) }
		tcp := func(s, d uint32, f, g uint16) []byte { return plain(6, s, d, part.Tcp(s, d, f, g, 0x12, data)) }
		for _, lay := range []func(s, d uint32, f, g uint16) []byte{udp, tcp} {
			f, e := rewrite.Out(lay(src, dst, from, to), addr, port)
			wantBytes(t, "Out", mustDo(t, f, e), lay(addr, dst, port, to))
			f, e = rewrite.In(lay(src, dst, from, to), addr, port)
			wantBytes(t, "In", mustDo(t, f, e), lay(src, addr, from, port))
			fault := func(s, d uint32, about []byte) []byte { return plain(1, s, d, part.Fault(11, 3, about)) }
			f, e = rewrite.Out(fault(7, 8, lay(src, dst, from, to)), addr, port)
			wantBytes(t, "Out of an error", mustDo(t, f, e), fault(addr, 8, lay(src, addr, from, port)))
			f, e = rewrite.In(fault(7, 8, lay(src, dst, from, to)), addr, port)
			wantBytes(t, "In of an error", mustDo(t, f, e), fault(7, addr, lay(addr, dst, port, to)))
		}
	}
}

func TestRewrittenEchoIsAsIfLaidAnew(t *testing.T) {
	for _, reply := range []bool{false, true} {
		for _, data := range []string{"", "x", "ping"} {
			lay := func(s, d uint32, id uint16) []byte {
				return plain(1, s, d, part.Echo(reply, id, []byte(data)))
			}
			fault := func(s, d uint32, about []byte) []byte { return plain(1, s, d, part.Fault(3, 0, about)) }
			b := lay(inside, far, 5)
			f, e := rewrite.Out(b, outer, 4000)
			wantBytes(t, "Out", mustDo(t, f, e), lay(outer, far, 4000))
			f, e = rewrite.In(b, outer, 4000)
			wantBytes(t, "In", mustDo(t, f, e), lay(inside, outer, 4000))
			f, e = rewrite.Out(fault(far, midway, b), outer, 4000)
			wantBytes(t, "Out of an error", mustDo(t, f, e), fault(outer, midway, lay(inside, outer, 4000)))
			f, e = rewrite.In(fault(midway, inside, b), outer, 4000)
			wantBytes(t, "In of an error", mustDo(t, f, e), fault(midway, outer, lay(outer, far, 4000)))
		}
	}
}

func TestAllKindsOfFrames(t *testing.T) {
	for _, s := range samples() {
		for _, w := range ways {
			for _, addr := range addrs {
				for _, port := range ports {
					w.check(t, s.what, s.b, addr, port)
				}
			}
		}
	}
}

func TestWhatStandsBehindThePacketIsCut(t *testing.T) {
	for _, s := range samples() {
		for _, w := range ways {
			f, e := w.do(s.b, outer, 4000)
			for _, more := range []int{1, 2, 18, 3000} {
				long := append(bytes.Clone(s.b), bytes.Repeat([]byte{0xAB}, more)...)
				g, d := w.do(long, outer, 4000)
				if d != e || !bytes.Equal(f, g) || len(g) != len(s.b) {
					t.Fatalf("%s of %s and %d bytes: %d, %x, not %x", w.what, s.what, more, d, g, f)
				}
			}
		}
	}
}

// alike holds two frames against each other, but that a sum of nought may be told in two ways where one stands.
func alike(a, b []byte, sums ...int) bool {
	a, b = bytes.Clone(a), bytes.Clone(b)
	for _, at := range sums {
		if at+2 <= len(a) && len(a) == len(b) {
			turnNought(a, at)
			turnNought(b, at)
		}
	}
	return bytes.Equal(a, b)
}

func sumsOf(b []byte) []int {
	size := int(b[0]&15) * 4
	sumAt := map[byte]int{1: 2, 6: 16, 17: 6}
	sums := []int{10, size + sumAt[b[9]]}
	if b[9] == 1 && b[size] != 0 && b[size] != 8 {
		begin := size + 8
		sums = append(sums, begin+10, begin+int(b[begin]&15)*4+sumAt[b[begin+9]])
	}
	return sums
}

func TestByWhatWasThereItIsTheFrameItself(t *testing.T) {
	for _, s := range samples() {
		h, p, e := gotFrame(s.b)
		if e != api.OK {
			t.Fatal(s.what, e)
		}
		out, in := p.SrcPort, p.DstPort
		if p.Error {
			out, in = p.DstPort, p.SrcPort
		}
		f, e := rewrite.Out(s.b, h.Src, out)
		if e != api.OK || !alike(f, s.b, sumsOf(s.b)...) {
			t.Errorf("Out of %s: %d, %x, not %x", s.what, e, f, s.b)
		}
		f, e = rewrite.In(s.b, h.Dst, in)
		if e != api.OK || !alike(f, s.b, sumsOf(s.b)...) {
			t.Errorf("In of %s: %d, %x, not %x", s.what, e, f, s.b)
		}
	}
}

func TestThereAndBack(t *testing.T) {
	for _, s := range samples() {
		h, p, _ := gotFrame(s.b)
		back := p.SrcPort
		if p.Error {
			back = p.DstPort
		}
		f, e := rewrite.Out(s.b, outer, 4000)
		f = mustDo(t, f, e)
		f, e = rewrite.Out(f, h.Src, back)
		if e != api.OK || !alike(f, s.b, sumsOf(s.b)...) {
			t.Errorf("%s: %d, %x, not %x", s.what, e, f, s.b)
		}
	}
}

// almost is a sample that was changed here and there, mostly with right sums.
func almost(r *rand.Rand, all []sample) []byte {
	b := bytes.Clone(all[r.Intn(len(all))].b)
	for range r.Intn(4) {
		b[r.Intn(len(b))] = []byte{0, 0xFF, 0x45, byte(r.Uint32())}[r.Intn(4)]
	}
	if r.Intn(6) == 0 {
		b = b[:r.Intn(len(b)+1)]
	}
	if len(b) >= 20 && r.Intn(8) > 0 {
		resumHead(b)
		resumCarried(b)
	}
	if r.Intn(6) == 0 {
		b = append(b, 1, 2, 3)
	}
	return b
}

func TestAllBytesAreAnswered(t *testing.T) {
	r := rand.New(rand.NewSource(2))
	all := samples()
	told := 0
	for range 200000 {
		b := almost(r, all)
		if _, _, e := gotFrame(b); e == api.OK {
			told++
		}
		w := ways[r.Intn(2)]
		w.check(t, "a frame", b, addrs[r.Intn(len(addrs))], ports[r.Intn(len(ports))])
	}
	if told < 20000 {
		t.Errorf("only %d could be got", told)
	}
	for range 20000 {
		b := make([]byte, r.Intn(90))
		r.Read(b)
		ways[r.Intn(2)].check(t, "any bytes", b, r.Uint32(), uint16(r.Uint32()))
	}
}

func TestNothingHandedInIsChangedOrKept(t *testing.T) {
	for _, s := range samples() {
		for _, w := range ways {
			all := append(bytes.Clone(s.b), bytes.Repeat([]byte{0xCD}, 40)...)
			was := bytes.Clone(all)
			f, e := w.do(all[:len(s.b)], outer, 4000)
			f = mustDo(t, f, e)
			if !bytes.Equal(all, was) {
				t.Fatalf("%s changed %s: %x, not %x", w.what, s.what, all, was)
			}
			first := bytes.Clone(f)
			clear(all)
			if !bytes.Equal(f, first) {
				t.Fatalf("%s of %s hangs on what was handed in", w.what, s.what)
			}
			copy(all, was)
			clear(f[:cap(f)])
			if !bytes.Equal(all, was) {
				t.Fatalf("what was handed in hangs on what %s told of %s", w.what, s.what)
			}
			if g, _ := w.do(all[:len(s.b)], outer, 4000); !bytes.Equal(g, first) {
				t.Fatalf("%s of %s told another thing", w.what, s.what)
			}
		}
	}
}
