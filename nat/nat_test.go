package nat_test

import (
	"bytes"
	"math"
	"slices"
	"testing"

	"fanlight/api"
	"fanlight/model"
	"fanlight/nat"
	"fanlight/part"
	"fanlight/place"
	"fanlight/plan"
)

func TestNew(t *testing.T) {
	c := config(2, 40, 4)
	n := newNat(t, c)
	if n.Config() != c {
		t.Errorf("%+v", n.Config())
	}
	wantBindings(t, n, nil)
	wantOneClaim(t, n)
	for i := range plan.Places(c) {
		proto, port := plan.Port(c, i)
		if l := n.Claims(proto, port); !slices.Equal(l, []nat.Claim{{Kind: nat.Pooled, Worker: -1}}) {
			t.Errorf("port %d of protocol %d: %+v", port, proto, l)
		}
	}
	greatest := plan.Config{Workers: 64, Outer: 1, Lo: 64512, Hi: 65535, Buckets: 1024, Ring: 256}
	least := plan.Config{Workers: 1, Outer: 1, Lo: 1, Hi: 1, Buckets: 2, Ring: 1}
	for _, c := range []plan.Config{greatest, least} {
		n := newNat(t, c)
		if a := alone(t, n, c.Workers-1, sent(5, 0)); a.Err != api.OK || portOf(t, a.Frame) < c.Lo {
			t.Errorf("%+v: %+v", c, a)
		}
		wantOneClaim(t, n)
		wantNothingLeft(t, n)
	}
}

func TestNewOfAWrongConfig(t *testing.T) {
	for _, spoil := range []func(c *plan.Config){
		func(c *plan.Config) { c.Workers = 0 },
		func(c *plan.Config) { c.Workers = 65 },
		func(c *plan.Config) { c.Outer = 0 },
		func(c *plan.Config) { c.Outer = 0xFFFFFFFF },
		func(c *plan.Config) { c.Lo = 0 },
		func(c *plan.Config) { c.Hi = 999 },
		func(c *plan.Config) { c.Hi = 2024 },
		func(c *plan.Config) { c.Hi = math.MaxInt },
		func(c *plan.Config) { c.Buckets = 3 },
		func(c *plan.Config) { c.Buckets = 2048 },
		func(c *plan.Config) { c.Ring = 0 },
		func(c *plan.Config) { *c = plan.Config{} },
	} {
		c := config(1, 10, 4)
		spoil(&c)
		if n, e := nat.New(c); n != nil || e != api.ErrArg {
			t.Errorf("%+v: %d", c, e)
		}
	}
}

// wantNobody holds what is answered of a worker that there isn't.
func wantNobody(t *testing.T, n *nat.Nat, w int) {
	t.Helper()
	if e := n.Begin(w, true, udp(host, far, 5, 53), 3); e != api.ErrArg {
		t.Errorf("Begin of worker %d: %d", w, e)
	}
	if e := n.Sweep(w, 3); e != api.ErrArg {
		t.Errorf("Sweep of worker %d: %d", w, e)
	}
	if !n.Do(w) {
		t.Errorf("worker %d has to do something", w)
	}
	if a, ok := n.Told(w); ok || a.Err != api.OK || a.Frame != nil {
		t.Errorf("worker %d was told %+v", w, a)
	}
	if n.Busy(w) || n.Pinned(w) || n.Holds(w) != -1 || len(n.Ended(w)) != 0 {
		t.Errorf("worker %d: %v, %v, %d, %v", w, n.Busy(w), n.Pinned(w), n.Holds(w), n.Ended(w))
	}
}

func TestNobody(t *testing.T) {
	for _, n := range []*nat.Nat{nil, {}, newNat(t, config(2, 10, 4))} {
		was := n.Copy()
		for _, w := range []int{-1, 2, 64, math.MinInt, math.MaxInt} {
			wantNobody(t, n, w)
		}
		if !slices.Equal(n.Copy(), was) {
			t.Error("cells were changed by nobody")
		}
	}
	for _, n := range []*nat.Nat{nil, {}} {
		wantNobody(t, n, 0)
		if n.Config() != (plan.Config{}) || len(n.Bindings()) != 0 || len(n.Claims(api.Udp, 1000)) != 0 || len(n.Copy()) != 0 {
			t.Errorf("%+v, %+v, %+v, %v", n.Config(), n.Bindings(), n.Claims(api.Udp, 1000), n.Copy())
		}
	}
}

func TestClaimsOfNoPort(t *testing.T) {
	n := newNat(t, config(1, 10, 4))
	for _, x := range [][2]int{{api.Udp, 999}, {api.Udp, 1010}, {api.Tcp, 0}, {0, 1000}, {47, 1000}, {-1, 1000}, {api.Icmp, math.MinInt}, {math.MaxInt, math.MaxInt}} {
		if l := n.Claims(x[0], x[1]); len(l) != 0 {
			t.Errorf("%v: %+v", x, l)
		}
	}
}

// TestWhatIsBegun has what a worker tells of itself from the begin of a frame to its end.
func TestWhatIsBegun(t *testing.T) {
	n := newNat(t, config(2, 10, 4))
	if _, ok := n.Told(0); ok || n.Busy(0) || !n.Do(0) {
		t.Error("it was told something, or is busy")
	}
	d := sent(5, 3)
	if begin(n, 0, d) != api.OK || begin(n, 0, d) != api.ErrBusy || begin(n, 0, sweeps(3)) != api.ErrBusy {
		t.Error("begin")
	}
	// Who is busy is told that a tick can't be, as far as the call looks at it.
	if n.Sweep(0, -1) != api.ErrArg || n.Begin(0, true, nil, -1) != api.ErrBusy {
		t.Error("errors aren't in order")
	}
	pinned, held := 0, 0
	for !n.Do(0) {
		if _, ok := n.Told(0); ok || !n.Busy(0) || n.Busy(1) || n.Pinned(1) || n.Holds(1) != -1 {
			t.Fatal("it isn't done, or another one does it")
		}
		if n.Pinned(0) {
			pinned++
		}
		if port := n.Holds(0); port >= 0 {
			held++
			if !n.Pinned(0) || port != 1000 || n.Claims(api.Udp, port)[0] != (nat.Claim{Kind: nat.Bound, Worker: -1}) {
				t.Fatal(port, n.Claims(api.Udp, port))
			}
		}
	}
	if a, ok := n.Told(0); !ok || a.Err != api.OK || pinned == 0 || held == 0 || held >= pinned {
		t.Errorf("%+v, pinned at %d moments, held at %d", a, pinned, held)
	}
	if n.Busy(0) || n.Pinned(0) || n.Holds(0) != -1 {
		t.Error("it is done, and isn't")
	}
	alone(t, n, 0, sweeps(4))
	if a, ok := n.Told(0); !ok || a.Err != api.OK {
		t.Errorf("a sweep took away what the last frame was told: %+v", a)
	}
}

func TestTheLastFrameIsTold(t *testing.T) {
	n := newNat(t, config(1, 10, 4))
	first := alone(t, n, 0, sent(5, 3))
	begin(n, 0, came(1009, 3))
	for !n.Do(0) {
		if a, ok := n.Told(0); !ok || !bytes.Equal(a.Frame, first.Frame) {
			t.Fatalf("%+v, %v", a, ok)
		}
	}
	if a, ok := n.Told(0); !ok || a.Err != api.ErrNone || a.Frame != nil {
		t.Errorf("%+v, %v", a, ok)
	}
}

// TestRefusedFrames is P16.1: they touch no cell, so they aren't pinned either.
func TestRefusedFrames(t *testing.T) {
	good := func() []byte { return udp(host, far, 5, 53) }
	with := func(at int, b byte) []byte {
		f := good()
		f[at] = b
		return resumHead(f)
	}
	headOff, carriedOff := good(), good()
	headOff[10] ^= 1
	carriedOff[len(carriedOff)-1] ^= 1
	n := newNat(t, config(1, 10, 4))
	alone(t, n, 0, sent(5, 3))
	was := n.Copy()
	for _, x := range []struct {
		want api.Errno
		d    deed
	}{
		{api.ErrArg, sends(good(), -1)},
		{api.ErrArg, sends(good(), maxTick+1)},
		{api.ErrArg, sends(nil, math.MinInt)},
		{api.ErrArg, brings(good(), math.MaxInt)},
		{api.ErrShort, sends(nil, 3)},
		{api.ErrShort, brings(nil, 3)},
		{api.ErrShort, sends(good()[:29], 3)},
		{api.ErrForm, sends(with(0, 0x65), 3)},
		{api.ErrSum, sends(headOff, 3)},
		{api.ErrSum, sends(carriedOff, 3)},
		{api.ErrFragment, sends(with(6, 0x20), 3)},
		{api.ErrProto, sends(lay(47, host, far, make([]byte, 20)), 3)},
		{api.ErrProto, brings(lay(api.Icmp, far, outer, part.Fault(5, 0, nil)), 3)},
		{api.ErrNone, brings(udp(far, host, 53, 1000), 3)},
		{api.ErrNone, brings(fault(far, outer, udp(host, far, 1000, 53)), 3)},
		{api.ErrNone, came(999, 3)},
		{api.ErrNone, came(1010, 3)},
		{api.ErrNone, came(0, 3)},
		{api.ErrNone, brings(fault(far, outer, udp(outer, far, 999, 53)), 3)},
	} {
		if e := begin(n, 0, x.d); e != api.OK || !n.Busy(0) || n.Pinned(0) {
			t.Fatalf("%+v: %d", x.d, e)
		}
		for !n.Do(0) {
			if n.Pinned(0) {
				t.Errorf("%+v is pinned", x.d)
			}
		}
		if a, ok := n.Told(0); !ok || a.Err != x.want || a.Frame != nil {
			t.Errorf("%+v: %+v, not %d", x.d, a, x.want)
		}
		if !slices.Equal(n.Copy(), was) {
			t.Fatalf("%+v: cells were changed", x.d)
		}
	}
}

func TestSweepAtNoTick(t *testing.T) {
	n := newNat(t, config(1, 10, 4))
	for _, tick := range []int{-1, maxTick + 1, math.MinInt, math.MaxInt} {
		if e := n.Sweep(0, tick); e != api.ErrArg || n.Busy(0) {
			t.Errorf("%d: %d", tick, e)
		}
	}
	alone(t, n, 0, sweeps(0), sweeps(maxTick))
}

// TestNothingIsKept is P16.8.
func TestNothingIsKept(t *testing.T) {
	n := newNat(t, config(1, 10, 4))
	room := append(udp(host, far, 5, 53), make([]byte, 40)...)
	size := len(room) - 40
	f := room[:size]
	begin(n, 0, sends(f, 3))
	clear(room)
	for !n.Do(0) {
		if !bytes.Equal(room, make([]byte, len(room))) {
			t.Fatal("what was handed in is changed")
		}
	}
	a, _ := n.Told(0)
	if a.Err != api.OK || portOf(t, a.Frame) != 1000 {
		t.Fatalf("%+v", a)
	}
	clear(a.Frame)
	b, _ := n.Told(0)
	if portOf(t, b.Frame) != 1000 {
		t.Error("what was told is kept")
	}
	alone(t, n, 0, sweeps(200))
	want := []nat.End{{Proto: api.Udp, Port: 1000}}
	n.Ended(0)[0].Port = 7
	if l := n.Ended(0); !slices.Equal(l, want) {
		t.Errorf("%+v", l)
	}
	n.Copy()[0] ^= 1
	n.Claims(api.Udp, 1001)[0].Kind = 9
	wantOneClaim(t, n)
	if l := n.Claims(api.Udp, 1001); l[0] != (nat.Claim{Kind: nat.Cached}) {
		t.Errorf("%+v", l)
	}
}

// TestFramesWithMoreBehind: what stands behind a packet is cut, and its size is no matter.
func TestFramesWithMoreBehind(t *testing.T) {
	n := newNat(t, config(1, 10, 4))
	f := udp(host, far, 5, 53)
	a := alone(t, n, 0, sends(append(slices.Clone(f), make([]byte, 5000)...), 3))
	if b := alone(t, n, 0, sends(f, 3)); a.Err != api.OK || !bytes.Equal(a.Frame, b.Frame) || len(a.Frame) != len(f) {
		t.Errorf("%+v, %+v", a, b)
	}
}

// TestHowItIsMade holds the cells against the chapter: a port is a place, whose Word is its binding's; each binding of a place has another Gen.
func TestHowItIsMade(t *testing.T) {
	c := config(1, 1, 2)
	n := newNat(t, c)
	words := func() place.Word {
		// Behind the three pools' words there are the places: two cells each.
		return place.Unpack(n.Copy()[3+2*plan.Place(c, api.Tcp, 1000)])
	}
	alone(t, n, 0, segment(true, 5, syn, 7))
	if w := words(); w != (place.Word{State: place.Live, Gen: 1, Seen: 7}) {
		t.Errorf("%+v", w)
	}
	alone(t, n, 0, segment(false, 1000, syn|ack, 9))
	if w := words(); w != (place.Word{State: place.Live, Gen: 1, Track: 1, Seen: 9}) {
		t.Errorf("%+v", w)
	}
	wantBindings(t, n, []model.Binding{{Flow: api.Flow{Proto: api.Tcp, Addr: host, Port: 5}, Port: 1000, Track: 1, Seen: 9}})
	wantNothingLeft(t, n)
	if w := words(); w != (place.Word{Gen: 1, Track: 1, Seen: 9}) {
		t.Errorf("%+v", w)
	}
	alone(t, n, 0, segment(true, 6, syn, 3))
	if w := words(); w != (place.Word{State: place.Live, Gen: 2, Seen: 3}) {
		t.Errorf("%+v", w)
	}
}

// TestGenComesRound: of a place there are more bindings than a Gen can count.
func TestGenComesRound(t *testing.T) {
	c := config(1, 1, 2)
	n := newNat(t, c)
	for k := range 1<<16 + 2 {
		if a := alone(t, n, 0, sent(uint16(k), 1)); a.Err != api.OK {
			t.Fatalf("binding %d: %+v", k, a)
		}
		gen := place.Unpack(n.Copy()[3+2*plan.Place(c, api.Udp, 1000)]).Gen
		if gen != (k+1)%(1<<16) {
			t.Fatalf("binding %d has Gen %d", k, gen)
		}
		alone(t, n, 0, sweeps(121), sweeps(121))
	}
}
