package rewrite_test

import (
	"bytes"
	"testing"

	"fanlight/api"
	"fanlight/part"
	"fanlight/rewrite"
)

func TestErrorsOfHeadAndPartAreTold(t *testing.T) {
	udp := part.Udp(inside, far, 5, 53, []byte("hi"))
	about := packet(20, 17, far, inside, part.Udp(far, inside, 53, 5, nil))
	spoil := func(b []byte, at int, by byte) []byte {
		b = bytes.Clone(b)
		b[at] ^= by
		return b
	}
	whole := packet(20, 17, inside, far, udp)
	piece := spoil(whole, 6, 0x20)
	resumHead(piece)
	long := packet(20, 17, inside, far, make([]byte, 1481))
	code := part.Echo(false, 5, nil)
	code[1], code[3] = 1, code[3]-1
	for _, c := range []struct {
		what string
		b    []byte
		want api.Errno
	}{
		{"nothing", nil, api.ErrShort},
		{"19 bytes", whole[:19], api.ErrShort},
		{"a packet that isn't there", whole[:25], api.ErrShort},
		{"version 6", spoil(whole, 0, 0x20), api.ErrForm},
		{"1501 bytes", long, api.ErrForm},
		{"the head's sum", spoil(whole, 8, 1), api.ErrSum},
		{"a piece", piece, api.ErrFragment},
		{"a protocol", packet(20, 99, inside, far, udp), api.ErrProto},
		{"UDP of 7 bytes", packet(20, 17, inside, far, udp[:7]), api.ErrShort},
		{"UDP's length", packet(20, 17, inside, far, udp[:9]), api.ErrForm},
		{"UDP's sum", spoil(whole, 29, 1), api.ErrSum},
		{"TCP of 19 bytes", packet(20, 6, inside, far, make([]byte, 19)), api.ErrShort},
		{"TCP's own head", packet(20, 6, inside, far, make([]byte, 20)), api.ErrForm},
		{"TCP's sum", packet(20, 6, inside, 9, part.Tcp(inside, far, 5, 53, 0, nil)), api.ErrSum},
		{"ICMP of 7 bytes", packet(20, 1, inside, far, make([]byte, 7)), api.ErrShort},
		{"ICMP's sum", packet(20, 1, inside, far, make([]byte, 8)), api.ErrSum},
		{"an echo's code", packet(20, 1, inside, far, code), api.ErrForm},
		{"ICMP's type", packet(20, 1, inside, far, part.Fault(5, 0, about)), api.ErrProto},
		{"an error about nothing", packet(20, 1, inside, far, part.Fault(3, 0, nil)), api.ErrShort},
		{"an error about 7 bytes", packet(20, 1, inside, far, part.Fault(3, 0, about[:27])), api.ErrForm},
		{"an error about a piece", packet(20, 1, inside, far, part.Fault(3, 0, piece)), api.ErrFragment},
		{"an error about a protocol", packet(20, 1, inside, far, part.Fault(3, 0, packet(20, 2, 1, 2, udp))), api.ErrProto},
		{"an error about an error", packet(20, 1, inside, far, part.Fault(3, 0, packet(20, 1, 1, 2, part.Fault(3, 0, about)))), api.ErrProto},
	} {
		for _, w := range ways {
			if f, e := w.do(c.b, outer, 4000); e != c.want || f != nil {
				t.Errorf("%s of %s: %x %d, not %d", w.what, c.what, f, e, c.want)
			}
		}
	}
}

func TestTheLongestFrame(t *testing.T) {
	for _, size := range []int{20, 60} {
		b := packet(size, 1, inside, far, make([]byte, 1500-size))
		b[size] = 8
		resumCarried(b)
		for _, w := range ways {
			w.check(t, "1500 bytes", b, outer, 4000)
		}
		if f, e := rewrite.Out(b, outer, 4000); e != api.OK || len(f) != 1500 {
			t.Errorf("%d bytes, error %d", len(f), e)
		}
	}
}

// cancelling is the port by which the sum at sumAt of what do tells comes to nought.
func cancelling(t *testing.T, w way, b []byte, addr uint32, sumAt int) uint16 {
	t.Helper()
	f, e := w.do(b, addr, 0)
	s := get16(mustDo(t, f, e), sumAt)
	if s == 0 || s == 0xFFFF {
		t.Fatal("the sum is nought by port 0 already")
	}
	return s
}

func wantSum(t *testing.T, what string, w way, b []byte, addr uint32, port uint16, sumAt int, want uint16) {
	t.Helper()
	w.check(t, what, b, addr, port)
	f, e := w.do(b, addr, port)
	if e != api.OK || get16(f, sumAt) != want {
		t.Errorf("%s of %s: %d, sum %x, not %x", w.what, what, e, get16(f, sumAt), want)
	}
}

func TestSumsThatComeToNought(t *testing.T) {
	udp := packet(20, 17, inside, far, part.Udp(inside, far, 5, 53, []byte("hi")))
	tcp := packet(20, 6, inside, far, part.Tcp(inside, far, 5, 53, 2, nil))
	echo := packet(20, 1, inside, far, part.Echo(false, 5, []byte("hi")))
	for _, w := range ways {
		wantSum(t, "UDP", w, udp, outer, cancelling(t, w, udp, outer, 26), 26, 0xFFFF)
		wantSum(t, "TCP", w, tcp, outer, cancelling(t, w, tcp, outer, 36), 36, 0)
		wantSum(t, "an echo", w, echo, outer, cancelling(t, w, echo, outer, 22), 22, 0xFFFF)
		for _, c := range []struct {
			what  string
			about []byte
			sumAt int
			want  uint16
		}{
			{"an error about UDP", udp, 54, 0xFFFF},
			{"an error about TCP", tcp, 64, 0},
			{"an error about an echo", echo, 50, 0xFFFF},
		} {
			b := packet(20, 1, midway, inside, part.Fault(3, 1, c.about))
			wantSum(t, c.what, w, b, outer, cancelling(t, w, b, outer, c.sumAt), c.sumAt, c.want)
		}
	}
}

func TestHeadsSumOfNoughtStays(t *testing.T) {
	b := packet(20, 17, inside, far, part.Udp(inside, far, 5, 53, nil))
	f, e := rewrite.Out(b, 0, 5)
	// the address by which the head's sum comes to nought
	addr := uint32(get16(mustDo(t, f, e), 10))
	w := ways[0]
	wantSum(t, "the head's", w, b, addr, 5, 10, 0)
	bad := packet(20, 1, inside, far, part.Fault(3, 1, packet(20, 17, far, addr, part.Udp(far, addr, 53, 5, nil))))
	put16(bad, 38, 0xFFFF)
	resumCarried(bad)
	w.check(t, "an error about a head whose sum is all ones", bad, addr, 5)
}

func TestAHeadsSumOfAllOnesIsMended(t *testing.T) {
	b := packet(20, 17, inside, far, part.Udp(inside, far, 5, 53, nil))
	f, e := rewrite.Out(b, 0, 5)
	addr := uint32(get16(mustDo(t, f, e), 10))
	f, e = rewrite.Out(b, addr, 5)
	ones := mustDo(t, f, e)
	put16(ones, 10, 0xFFFF)
	for _, w := range ways {
		for _, to := range addrs {
			w.check(t, "a head whose sum is all ones", ones, to, 4000)
		}
	}
}

func TestBareUdpStaysBare(t *testing.T) {
	c := part.Udp(inside, far, 5, 53, []byte("hi"))
	put16(c, 6, 0)
	b := packet(20, 17, inside, far, c)
	fault := packet(20, 1, midway, inside, part.Fault(3, 1, b))
	for _, w := range ways {
		for _, port := range ports {
			wantSum(t, "bare UDP", w, b, outer, port, 26, 0)
			wantSum(t, "an error about bare UDP", w, fault, outer, port, 54, 0)
		}
	}
}

func TestEchoesOfNoughts(t *testing.T) {
	reply := packet(20, 1, inside, far, part.Echo(true, 0, make([]byte, 3)))
	if get16(reply, 22) != 0xFFFF {
		t.Fatal("not all noughts")
	}
	for _, w := range ways {
		wantSum(t, "noughts", w, reply, outer, 0, 22, 0xFFFF)
		wantSum(t, "noughts", w, reply, outer, 7, 22, 0xFFF8)
		wantSum(t, "noughts", w, reply, outer, 0xFFFF, 22, 0xFFFF)
		for _, number := range []uint16{7, 0xFFFF} {
			b := packet(20, 1, inside, far, part.Echo(true, number, nil))
			wantSum(t, "noughts again", w, b, outer, 0, 22, 0xFFFF)
		}
		ones := packet(20, 1, inside, far, part.Echo(true, 0xFFFF, nil))
		put16(ones, 22, 0xFFFF)
		wantSum(t, "all ones", w, ones, outer, 0, 22, 0xFFFF)
		fault := packet(20, 1, midway, inside, part.Fault(3, 1, reply))
		wantSum(t, "an error about noughts", w, fault, outer, 0, 50, 0xFFFF)
	}
}

// segment is what stands behind an error's own bytes: a TCP packet whose head says length, of which left bytes are there behind it.
func segment(length, left int) []byte {
	b := packet(20, 6, inside, far, part.Tcp(inside, far, 5, 53, 2, bytes.Repeat([]byte{9}, 20)))
	put16(b, 2, uint16(length))
	resumHead(b)
	return b[:20+left]
}

func TestTcpSumInAnErrorNeedsBothBytes(t *testing.T) {
	for left := 8; left <= 40; left++ {
		for _, length := range []int{28, 35, 36, 37, 38, 39, 40, 60, 65535} {
			about := segment(length, left)
			b := packet(20, 1, midway, inside, part.Fault(11, 0, about))
			for _, w := range ways {
				w.check(t, "an error about TCP", b, outer, 4000)
				f, e := w.do(b, outer, 4000)
				if now := mustDo(t, f, e)[28:]; left >= 17 && length < 38 && !bytes.Equal(now[30:], about[30:]) {
					t.Errorf("%s: behind a packet of %d bytes: %x, not %x", w.what, length, now[30:], about[30:])
				}
				whole := left >= 18 && length >= 38
				if now := f[28:]; whole && get16(now, 36) == get16(about, 36) {
					t.Errorf("%s: %d bytes of %d: the sum wasn't mended", w.what, left, length)
				}
				if now := f[28:]; left == 17 && now[36] != about[36] {
					t.Errorf("%s: half of a sum was changed", w.what)
				}
			}
		}
	}
}

// TestWrongSumsInAnErrorStayAsWrong: they are mended, not made anew, as more of that packet may be cut off.
func TestWrongSumsInAnErrorStayAsWrong(t *testing.T) {
	for _, c := range []struct {
		what  string
		about []byte
		sumAt int
	}{
		{"UDP", packet(20, 17, inside, far, part.Udp(inside, far, 5, 53, []byte("hi"))), 26},
		{"TCP", packet(20, 6, inside, far, part.Tcp(inside, far, 5, 53, 2, nil)), 36},
		{"an echo", packet(20, 1, inside, far, part.Echo(false, 5, []byte("hi"))), 22},
		{"a head", packet(20, 17, inside, far, part.Udp(inside, far, 5, 53, []byte("hi"))), 10},
	} {
		for _, by := range []uint16{1, 0x100, 0x1234} {
			about := bytes.Clone(c.about)
			put16(about, c.sumAt, get16(about, c.sumAt)^by)
			b := packet(20, 1, midway, inside, part.Fault(3, 1, about))
			for _, w := range ways {
				w.check(t, "an error about "+c.what, b, outer, 4000)
			}
			f, e := rewrite.In(b, outer, 4000)
			f = mustDo(t, f, e)
			f, e = rewrite.In(f, inside, 5)
			if e != api.OK || !alike(f, b, sumsOf(b)...) {
				t.Errorf("%s, there and back: %d, %x, not %x", c.what, e, f, b)
			}
		}
	}
}

// TestAnErrorsOwnSumIsMadeAnew: of a sum of all ones that was right another one is told, if it is made anew.
func TestAnErrorsOwnSumIsMadeAnew(t *testing.T) {
	about := packet(20, 17, inside, far, part.Udp(inside, far, 5, 53, []byte{0, 0}))
	// Two bytes behind that packet by which the error's own sum comes to nought.
	carried := part.Fault(3, 1, append(about, 0, 0))
	n := len(carried)
	put16(carried, n-2, get16(carried, 2))
	put16(carried, 2, 0xFFFF)
	b := packet(20, 1, midway, inside, carried)
	if _, _, e := gotFrame(b); e != api.OK {
		t.Fatal("error", e)
	}
	f, e := rewrite.In(b, inside, 5)
	if s := get16(mustDo(t, f, e), 22); s != 0 {
		t.Errorf("by what was there: %x", s)
	}
	for _, w := range ways {
		f, e := w.do(b, outer, 4000)
		f = mustDo(t, f, e)
		if checksum(f[20:]) != 0 || get16(f, 22) == 0xFFFF {
			t.Errorf("%s: %x", w.what, f)
		}
		if get16(f, len(f)-2) != get16(b, len(b)-2) {
			t.Errorf("%s changed what stands behind the error's packet", w.what)
		}
	}
}

func TestOnlyOneEndIsChanged(t *testing.T) {
	b := packet(20, 1, midway, inside, part.Fault(3, 1, packet(20, 17, inside, far, part.Udp(inside, far, 5, 53, nil))))
	h, p, _ := gotFrame(b)
	for _, c := range []struct {
		w         way
		addr      uint32
		port      uint16
		src, dst  uint32
		innerSrc  uint32
		innerDst  uint32
		fromInner uint16
		toInner   uint16
	}{
		{ways[0], outer, 4000, outer, inside, inside, outer, 5, 4000},
		{ways[1], outer, 4000, midway, outer, outer, far, 4000, 53},
	} {
		f, e := c.w.do(b, c.addr, c.port)
		mustDo(t, f, e)
		nowHead, nowPart, _ := gotFrame(f)
		h.Src, h.Dst = c.src, c.dst
		p.Inner.Src, p.Inner.Dst, p.SrcPort, p.DstPort = c.innerSrc, c.innerDst, c.fromInner, c.toInner
		if nowHead != h || nowPart != p {
			t.Errorf("%s: %+v %+v, not %+v %+v", c.w.what, nowHead, nowPart, h, p)
		}
	}
}
