package spread_test

import (
	"bytes"
	"math"
	"math/big"
	"math/rand"
	"testing"

	"fanlight/api"
	"fanlight/head"
	"fanlight/part"
	"fanlight/rewrite"
	"fanlight/sample"
	"fanlight/spread"
)

const (
	outer  = 0xC0000201
	host   = 0x0A000001
	gate   = 0x0A0000FE // who tells an error, inside
	midway = 0x05060708 // and outside
	far    = 0x08080808
)

const syn, ack = 2, 16

var udp, tcp, echo, fault = sample.Udp, sample.Tcp, sample.Echo, sample.Fault

func wantFar(t *testing.T, name string, out bool, frame []byte, want api.Flow) {
	t.Helper()
	if f, e := spread.Far(out, frame); f != want || e != api.OK {
		t.Errorf("%s: %+v %d, not %+v", name, f, e, want)
	}
}

func TestFar(t *testing.T) {
	to := func(proto int, port uint16) api.Flow { return api.Flow{Proto: proto, Addr: far, Port: port} }
	wantFar(t, "a datagram out", true, udp(host, far, 5, 53), to(17, 53))
	wantFar(t, "a datagram in", false, udp(far, outer, 53, 1000), to(17, 53))
	wantFar(t, "a segment out", true, tcp(host, far, 5, 80, syn), to(6, 80))
	wantFar(t, "a segment in", false, tcp(far, outer, 80, 1000, ack), to(6, 80))
	wantFar(t, "an echo out", true, echo(false, host, far, 5), to(1, 0))
	wantFar(t, "an echo in", false, echo(false, far, outer, 1000), to(1, 0))
	wantFar(t, "an answer out", true, echo(true, host, far, 5), to(1, 0))
	wantFar(t, "an answer in", false, echo(true, far, outer, 1000), to(1, 0))
	wantFar(t, "the greatest", true, udp(0, math.MaxUint32, 0, math.MaxUint16), api.Flow{Proto: 17, Addr: math.MaxUint32, Port: math.MaxUint16})
	wantFar(t, "the least", false, udp(0, math.MaxUint32, 0, math.MaxUint16), api.Flow{Proto: 17})
}

// TestFarOfErrors: what an error is about went the other way; who tells it, and whom, is no matter.
func TestFarOfErrors(t *testing.T) {
	to := func(proto int, port uint16) api.Flow { return api.Flow{Proto: proto, Addr: far, Port: port} }
	for _, teller := range []uint32{host, gate, midway, far} {
		wantFar(t, "out, about a datagram", true, fault(teller, midway, udp(far, host, 53, 5)), to(17, 53))
		wantFar(t, "out, about a segment", true, fault(teller, far, tcp(far, host, 80, 5, ack)), to(6, 80))
		wantFar(t, "out, about an answer", true, fault(teller, far, echo(true, far, host, 5)), to(1, 0))
		wantFar(t, "in, about a datagram", false, fault(teller, outer, udp(outer, far, 1000, 53)), to(17, 53))
		wantFar(t, "in, about a segment", false, fault(teller, outer, tcp(outer, far, 1000, 80, syn)), to(6, 80))
		wantFar(t, "in, about an echo", false, fault(teller, outer, echo(false, outer, far, 1000)), to(1, 0))
	}
	for _, kind := range []int{3, 11, 12} {
		f := sample.Lay(api.Icmp, midway, outer, part.Fault(kind, 7, udp(outer, far, 1000, 53)[:28]))
		wantFar(t, "of each kind", false, f, to(17, 53))
	}
}

// TestWhatCantBeGot: why is told, and it is the first worker's.
func TestWhatCantBeGot(t *testing.T) {
	for _, s := range sample.Spoiled(host, far) {
		for _, out := range []bool{true, false} {
			if f, e := spread.Far(out, s.Frame); e != s.Why || f != (api.Flow{}) {
				t.Errorf("%x: %+v %d, not %d", s.Frame, f, e, s.Why)
			}
			for workers := range 66 {
				if w := spread.Worker(workers, out, s.Frame); w != 0 {
					t.Errorf("%x is worker %d's", s.Frame, w)
				}
			}
		}
	}
}

// hashed is the hash by numbers without an end.
func hashed(f api.Flow) uint32 {
	all := new(big.Int).Lsh(big.NewInt(1), 64)
	n := new(big.Int).Mul(new(big.Int).Mod(big.NewInt(int64(f.Proto)), big.NewInt(65536)), new(big.Int).Lsh(big.NewInt(1), 48))
	n.Add(n, new(big.Int).Mul(big.NewInt(int64(f.Addr)), big.NewInt(65536)))
	n.Add(n, big.NewInt(int64(f.Port)))
	x := new(big.Int).Xor(n, new(big.Int).Div(n, big.NewInt(1<<29)))
	factor, _ := new(big.Int).SetString("C2B2AE3D27D4EB4F", 16)
	x.Mod(x.Mul(x, factor), all)
	return uint32(x.Div(x, big.NewInt(1<<32)).Uint64())
}

func TestHash(t *testing.T) {
	if h := spread.Hash(api.Flow{}); h != 0 {
		t.Errorf("of noughts: %x", h)
	}
	// Of port 1 it is the factor's higher half.
	if h := spread.Hash(api.Flow{Port: 1}); h != 0xC2B2AE3D {
		t.Errorf("of port 1: %x", h)
	}
	l := []api.Flow{{Port: math.MaxUint16}, {Addr: 1}, {Addr: math.MaxUint32}, {Addr: 1 << 13}, {Addr: 1<<13 - 1}}
	for _, proto := range []int{1, 6, 17, 255, 65535, 65536, 65537, -1, -65536, math.MaxInt, math.MinInt} {
		l = append(l, api.Flow{Proto: proto}, api.Flow{Proto: proto, Addr: far, Port: 53}, api.Flow{Proto: proto, Addr: math.MaxUint32, Port: math.MaxUint16})
	}
	rnd := rand.New(rand.NewSource(21))
	for range 2000 {
		l = append(l, api.Flow{Proto: int(rnd.Uint64()), Addr: rnd.Uint32(), Port: uint16(rnd.Int())})
	}
	for _, f := range l {
		if h := spread.Hash(f); h != hashed(f) {
			t.Errorf("of %+v: %x, not %x", f, h, hashed(f))
		}
	}
}

func TestWorker(t *testing.T) {
	for k := range uint32(50) {
		f := udp(host, far+k, 5, uint16(53+k))
		h := int(hashed(api.Flow{Proto: 17, Addr: far + k, Port: uint16(53 + k)}))
		for _, workers := range []int{1, 2, 3, 7, 64, 65536, math.MaxInt32, math.MaxUint32, math.MaxUint32 + 1, math.MaxInt} {
			if w := spread.Worker(workers, true, f); w != h%workers {
				t.Errorf("%d of %d workers, not %d", w, workers, h%workers)
			}
		}
		for _, workers := range []int{0, -1, -64, math.MinInt} {
			if w := spread.Worker(workers, true, f); w != 0 {
				t.Errorf("%d of %d workers", w, workers)
			}
		}
	}
}

// someSent is a frame that goes out, and what its far end answers when it came from an outer port.
func someSent(rnd *rand.Rand) (frame []byte, answer func(to uint16) []byte) {
	from, port, addr := uint16(rnd.Int()), uint16(rnd.Int()), rnd.Uint32()
	switch rnd.Intn(3) {
	case 0:
		return udp(host, addr, from, port), func(to uint16) []byte { return udp(addr, outer, port, to) }
	case 1:
		return tcp(host, addr, from, port, syn), func(to uint16) []byte { return tcp(addr, outer, port, to, syn|ack) }
	}
	return echo(false, host, addr, from), func(to uint16) []byte { return echo(true, addr, outer, to) }
}

// TestAnswersAreTheSameWorkers is P21.2: also of errors about what went out, and about what came in.
func TestAnswersAreTheSameWorkers(t *testing.T) {
	rnd := rand.New(rand.NewSource(212))
	for range 3000 {
		workers := 1 + rnd.Intn(64)
		frame, answer := someSent(rnd)
		port := uint16(rnd.Int())
		outside, e := rewrite.Out(frame, outer, port)
		if e != api.OK {
			t.Fatal(e)
		}
		back := answer(port)
		inside, e := rewrite.In(back, host, uint16(rnd.Int()))
		if e != api.OK {
			t.Fatal(e)
		}
		want := spread.Worker(workers, true, frame)
		for name, f := range map[string][]byte{
			"an answer":                       back,
			"an error about it":               fault(rnd.Uint32(), outer, outside),
			"one that goes on but for 8":      fault(rnd.Uint32(), outer, outside[:28]),
			"an answer as it was on its way":  answer(uint16(rnd.Int())),
			"an error by the far end, itself": fault(far, outer, outside),
		} {
			if w := spread.Worker(workers, false, f); w != want {
				t.Fatalf("%s: worker %d of %d, not %d: %x, %x", name, w, workers, want, frame, f)
			}
		}
		if w := spread.Worker(workers, true, fault(gate, far, inside)); w != want {
			t.Fatalf("an error about the answer: worker %d of %d, not %d", w, workers, want)
		}
	}
}

// TestNothingIsChanged is P21.3, also of the room behind a frame.
func TestNothingIsChanged(t *testing.T) {
	for _, f := range [][]byte{udp(host, far, 5, 53), tcp(host, far, 5, 80, syn), echo(false, host, far, 5), fault(midway, outer, udp(outer, far, 1000, 53))} {
		room := append(f, bytes.Repeat([]byte{0xA5}, 40)...)
		was := bytes.Clone(room)
		for _, out := range []bool{true, false} {
			a, e := spread.Far(out, room[:len(f)])
			b, e2 := spread.Far(out, room)
			if a != b || e != api.OK || e2 != api.OK {
				t.Errorf("%+v %d, %+v %d", a, e, b, e2)
			}
			spread.Worker(7, out, room[:len(f)])
		}
		if !bytes.Equal(room, was) {
			t.Errorf("%x is changed", room)
		}
	}
}

// TestFarIsWhatIsGot holds Far against what the layers below tell of frames of all kinds, of which some bytes are others.
func TestFarIsWhatIsGot(t *testing.T) {
	rnd := rand.New(rand.NewSource(213))
	told := map[api.Errno]int{}
	for range 20000 {
		frame, answer := someSent(rnd)
		if rnd.Intn(2) == 0 {
			frame = answer(uint16(rnd.Int()))
		}
		if rnd.Intn(3) == 0 {
			frame = fault(rnd.Uint32(), rnd.Uint32(), frame)
		}
		if rnd.Intn(3) == 0 {
			frame[rnd.Intn(len(frame))] ^= byte(1 << rnd.Intn(8))
		}
		frame = frame[:len(frame)-rnd.Intn(2)*rnd.Intn(2)*rnd.Intn(len(frame))]
		out := rnd.Intn(2) == 0
		want, e := farOf(out, frame)
		told[e]++
		if f, e2 := spread.Far(out, frame); f != want || e2 != e {
			t.Fatalf("out %v, %x: %+v %d, not %+v %d", out, frame, f, e2, want, e)
		}
	}
	if told[api.OK] < 5000 || told[api.ErrShort] < 100 || told[api.ErrSum] < 100 {
		t.Error(told)
	}
}

// farOf is the far end by the chapter's words, one behind the other.
func farOf(out bool, frame []byte) (api.Flow, api.Errno) {
	h, e := head.Get(frame)
	if e != api.OK {
		return api.Flow{}, e
	}
	p, e := part.Get(h, frame)
	if e != api.OK {
		return api.Flow{}, e
	}
	f := api.Flow{Proto: h.Proto}
	switch {
	case p.Error && out:
		f = api.Flow{Proto: p.Inner.Proto, Addr: p.Inner.Src, Port: p.SrcPort}
	case p.Error:
		f = api.Flow{Proto: p.Inner.Proto, Addr: p.Inner.Dst, Port: p.DstPort}
	case out:
		f.Addr, f.Port = h.Dst, p.DstPort
	default:
		f.Addr, f.Port = h.Src, p.SrcPort
	}
	if f.Proto == 1 {
		f.Port = 0
	}
	return f, api.OK
}
