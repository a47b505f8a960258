package drive_test

import (
	"math/rand"
	"testing"

	"fanlight/api"
	"fanlight/drive"
	"fanlight/head"
	"fanlight/nat"
	"fanlight/part"
	"fanlight/plan"
	"fanlight/sample"
	"fanlight/spread"
)

const (
	outer   = 0xC0000201
	host    = 0x0A000001
	another = 0x0A000002
	far     = 0x08080808
	farther = 0x09090909
	maxTick = 1<<32 - 1
)

const fin, syn, rst, ack = 1, 2, 4, 16

var udp, tcp, echo, fault = sample.Udp, sample.Tcp, sample.Echo, sample.Fault

// config has so many ports, from 1000 on.
func config(workers, ports, buckets, ring int) plan.Config {
	return plan.Config{Workers: workers, Outer: outer, Lo: 1000, Hi: 999 + ports, Buckets: buckets, Ring: ring}
}

func newDrive(t *testing.T, c plan.Config) *drive.Drive {
	t.Helper()
	d, e := drive.New(c)
	if e != api.OK || d == nil {
		t.Fatalf("New of %+v: %d", c, e)
	}
	return d
}

// farOf is the k-th far end of UDP's port 53 that is a worker's work.
func farOf(workers, w, k int) uint32 {
	for addr := uint32(far); ; addr++ {
		if spread.Worker(workers, true, udp(host, addr, 5, 53)) != w {
			continue
		}
		if k == 0 {
			return addr
		}
		k--
	}
}

// wantPut puts a frame in, and wants it to get a number, and to be a worker's.
func wantPut(t *testing.T, d *drive.Drive, out bool, frame []byte, number, worker int) {
	t.Helper()
	if n, w, e := d.Put(out, frame); n != number || w != worker || e != api.OK {
		t.Fatalf("frame %d of worker %d: %d; not %d of %d", n, w, e, number, worker)
	}
}

func wantTick(t *testing.T, d *drive.Drive, by int) {
	t.Helper()
	was := d.Now()
	if e := d.Tick(by); e != api.OK || d.Now() != was+by {
		t.Fatalf("Tick(%d) at %d: %d, tick %d", by, was, e, d.Now())
	}
}

func wantCounts(t *testing.T, d *drive.Drive, want drive.Counts) {
	t.Helper()
	if c := d.Counts(); c != want {
		t.Fatalf("%+v, not %+v", c, want)
	}
}

// finish lets a worker do all that it has to do, alone.
func finish(t *testing.T, d *drive.Drive, w int) {
	t.Helper()
	for range 1 << 20 {
		if d.Pick(w) {
			return
		}
	}
	t.Fatalf("worker %d has always something to do", w)
}

// portOf is the outer port by which a frame goes out: an error's is that to which the packet came that it is about.
func portOf(t *testing.T, frame []byte) int {
	t.Helper()
	h, e := head.Get(frame)
	if e != api.OK {
		t.Fatalf("what was told can't be got: %d, %x", e, frame)
	}
	p, e := part.Get(h, frame)
	if e != api.OK {
		t.Fatalf("what was told can't be got: %d, %x", e, frame)
	}
	if p.Error {
		return int(p.DstPort)
	}
	return int(p.SrcPort)
}

func differ(a, b []uint64) int {
	if len(a) != len(b) {
		panic("cells came, or went")
	}
	n := 0
	for i := range a {
		if a[i] != b[i] {
			n++
		}
	}
	return n
}

// wantOneClaim wants each port to be just one's.
func wantOneClaim(t *testing.T, n *nat.Nat) {
	t.Helper()
	c := n.Config()
	for i := range plan.Places(c) {
		proto, port := plan.Port(c, i)
		if l := n.Claims(proto, port); len(l) != 1 {
			t.Fatalf("port %d of protocol %d: %+v", port, proto, l)
		}
	}
}

func choose[T any](rnd *rand.Rand, l ...T) T { return l[rnd.Intn(len(l))] }

// someFrame is of one of few flows, that goes out or comes in, so that many find a binding; some can't be got.
func someFrame(rnd *rand.Rand, out bool, c plan.Config) []byte {
	src, dst := choose[uint32](rnd, host, host, another), choose[uint32](rnd, far, far, farther, far+1)
	from, to := choose[uint16](rnd, 5, 5, 6), choose[uint16](rnd, 53, 80)
	if !out {
		src, dst, from, to = dst, choose[uint32](rnd, outer, outer, outer, outer, host), to, uint16(c.Lo+rnd.Intn(min(c.Hi-c.Lo+1, 4)))
	}
	// What an error is about went the other way.
	isError := rnd.Intn(6) == 0
	if isError {
		src, dst, from, to = dst, src, to, from
	}
	var f []byte
	switch rnd.Intn(4) {
	case 0:
		f = echo(rnd.Intn(3) == 0, src, dst, choose(rnd, from, to))
	case 1:
		f = tcp(src, dst, from, to, choose(rnd, syn, syn, syn|ack, ack, fin|ack, rst, 0))
	default:
		f = udp(src, dst, from, to)
	}
	if isError {
		f = fault(farther, src, f)
	}
	if rnd.Intn(12) == 0 {
		f[rnd.Intn(len(f))] ^= 1
	}
	return f
}
