package nat_test

import (
	"math/rand"
	"slices"
	"testing"

	"fanlight/api"
	"fanlight/head"
	"fanlight/model"
	"fanlight/nat"
	"fanlight/part"
	"fanlight/plan"
	"fanlight/sample"
	"fanlight/sum"
	"fanlight/table"
)

const (
	outer   = 0xC0000201
	host    = 0x0A000001
	another = 0x0A000002
	far     = 0x08080808
	farther = 0x09090909
	gate    = 0x0A0000FE // who tells an error, inside
	maxTick = 1<<32 - 1
)

const fin, syn, rst, ack = 1, 2, 4, 16

// config has few ports, from 1000 on.
func config(workers, ports, buckets int) plan.Config {
	return plan.Config{Workers: workers, Outer: outer, Lo: 1000, Hi: 999 + ports, Buckets: buckets, Ring: 4}
}

var lay, udp, tcp, echo, fault = sample.Lay, sample.Udp, sample.Tcp, sample.Echo, sample.Fault

// deed is what a worker is to do: a frame, or a sweep, at a tick.
type deed struct {
	sweep bool
	out   bool
	frame []byte
	tick  int
}

func sends(frame []byte, tick int) deed  { return deed{out: true, frame: frame, tick: tick} }
func brings(frame []byte, tick int) deed { return deed{frame: frame, tick: tick} }
func sweeps(tick int) deed               { return deed{sweep: true, tick: tick} }

// host's flow of UDP whose port is from, to the far end; and what comes from there to a port outside.
func sent(from uint16, tick int) deed { return sends(udp(host, far, from, 53), tick) }
func came(port, tick int) deed        { return brings(udp(far, outer, 53, uint16(port)), tick) }

// segment is one of host's flow of TCP from port 5, or, if it isn't out, one that comes to the port outside.
func segment(out bool, port int, flags, tick int) deed {
	if out {
		return sends(tcp(host, far, uint16(port), 80, flags), tick)
	}
	return brings(tcp(far, outer, 80, uint16(port), flags), tick)
}

func newNat(t *testing.T, c plan.Config) *nat.Nat {
	t.Helper()
	n, e := nat.New(c)
	if e != api.OK || n == nil {
		t.Fatalf("New of %+v: %d", c, e)
	}
	return n
}

func begin(n *nat.Nat, w int, d deed) api.Errno {
	if d.sweep {
		return n.Sweep(w, d.tick)
	}
	return n.Begin(w, d.out, d.frame, d.tick)
}

// most is how many Dos a deed may need, if nobody else does a step.
func most(c plan.Config, d deed) int {
	if d.sweep {
		return 1000 + 100*plan.Places(c)
	}
	return plan.Bound(c)
}

// alone lets a worker do deeds, one behind the other, while nobody else does a step: what came of the last frame.
func alone(t *testing.T, n *nat.Nat, w int, deeds ...deed) model.Answer {
	t.Helper()
	for _, d := range deeds {
		if e := begin(n, w, d); e != api.OK {
			t.Fatalf("worker %d can't begin %+v: %d", w, d, e)
		}
		left := most(n.Config(), d)
		for ; left > 0 && !n.Do(w); left-- {
		}
		if left == 0 {
			t.Fatalf("%+v has no end", d)
		}
	}
	a, _ := n.Told(w)
	return a
}

// portOf is the port, or the number, from which a frame that was told comes.
func portOf(t *testing.T, frame []byte) int {
	t.Helper()
	h, e := head.Get(frame)
	if e != api.OK {
		t.Fatalf("what was told can't be got: %d, %x", e, frame)
	}
	p, e := part.Get(h, frame)
	if e != api.OK {
		t.Fatalf("what was told can't be got: %d, %x", e, frame)
	}
	return int(p.SrcPort)
}

// kin is the k-th port from which host's flow of UDP has this first bucket.
func kin(buckets, first, k int) uint16 {
	for from := range 1 << 16 {
		if a, _ := table.Spots(api.Flow{Proto: api.Udp, Addr: host, Port: uint16(from)}, buckets); a == first {
			if k == 0 {
				return uint16(from)
			}
			k--
		}
	}
	panic("no such flow")
}

func differ(a, b []uint64) int {
	if len(a) != len(b) {
		panic("cells came, or went")
	}
	n := 0
	for i := range a {
		if a[i] != b[i] {
			n++
		}
	}
	return n
}

func wantBindings(t *testing.T, n *nat.Nat, want []model.Binding) {
	t.Helper()
	if l := n.Bindings(); !slices.Equal(l, want) {
		t.Fatalf("bindings %+v, not %+v", l, want)
	}
}

// wantOneClaim is P16.3.
func wantOneClaim(t *testing.T, n *nat.Nat) {
	t.Helper()
	c := n.Config()
	for i := range plan.Places(c) {
		proto, port := plan.Port(c, i)
		if l := n.Claims(proto, port); len(l) != 1 {
			t.Fatalf("port %d of protocol %d: %+v", port, proto, l)
		}
	}
}

// wantNothingLeft has each worker sweep alone, three times, at the last tick: P16.6.
func wantNothingLeft(t *testing.T, n *nat.Nat) {
	t.Helper()
	c := n.Config()
	for range 3 {
		for w := range c.Workers {
			alone(t, n, w, sweeps(maxTick))
		}
	}
	wantBindings(t, n, nil)
	for i := range plan.Places(c) {
		proto, port := plan.Port(c, i)
		l := n.Claims(proto, port)
		if len(l) != 1 || l[0].Kind != nat.Pooled && l[0].Kind != nat.Cached {
			t.Fatalf("port %d of protocol %d: %+v", port, proto, l)
		}
	}
}

func resumHead(b []byte) []byte {
	b[10], b[11] = 0, 0
	s := sum.Of(b[:20])
	b[10], b[11] = byte(s>>8), byte(s)
	return b
}

// someFrame is of one of few flows, that goes out or comes in, so that many find a binding.
func someFrame(rnd *rand.Rand, out bool, c plan.Config) []byte {
	src, dst := choose[uint32](rnd, host, host, another), choose[uint32](rnd, far, far, farther)
	from, to := choose[uint16](rnd, 5, 5, 6), choose[uint16](rnd, 53, 80)
	if !out {
		src, dst, from, to = dst, choose[uint32](rnd, outer, outer, outer, outer, host), to, uint16(c.Lo+rnd.Intn(min(c.Hi-c.Lo+1, 4)))
		if rnd.Intn(20) == 0 {
			to = uint16(c.Lo - 1)
		}
	}
	// What an error is about went the other way.
	isError := rnd.Intn(6) == 0
	if isError {
		src, dst, from, to = dst, src, to, from
	}
	var f []byte
	switch rnd.Intn(4) {
	case 0:
		f = echo(rnd.Intn(3) == 0, src, dst, choose(rnd, from, to))
	case 1:
		f = tcp(src, dst, from, to, choose(rnd, syn, syn, syn|ack, ack, fin|ack, rst, 0))
	default:
		f = udp(src, dst, from, to)
	}
	switch {
	case !isError:
		return f
	case out:
		return fault(gate, src, f)
	}
	return fault(farther, outer, f)
}

func choose[T any](rnd *rand.Rand, l ...T) T { return l[rnd.Intn(len(l))] }
