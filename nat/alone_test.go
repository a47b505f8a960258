package nat_test

import (
	"bytes"
	"math/rand"
	"slices"
	"testing"

	"fanlight/api"
	"fanlight/head"
	"fanlight/model"
	"fanlight/nat"
	"fanlight/plan"
	"fanlight/track"
)

// both is a translator on which just one worker at a time does something, and a model to which the same is done. Owner has who made each binding, by its place.
type both struct {
	t     *testing.T
	n     *nat.Nat
	m     *model.Nat
	owner map[int]int
	told  map[api.Errno]int
	ended int
}

func newBoth(t *testing.T, c plan.Config) *both {
	m, _ := model.New(c)
	return &both{t: t, n: newNat(t, c), m: m, owner: map[int]int{}, told: map[api.Errno]int{}}
}

// free is how many ports of a protocol a worker could have.
func (b *both) free(w, proto int) int {
	c := b.n.Config()
	n := 0
	for port := c.Lo; port <= c.Hi; port++ {
		switch b.n.Claims(proto, port)[0] {
		case nat.Claim{Kind: nat.Pooled, Worker: -1}, nat.Claim{Kind: nat.Cached, Worker: w}:
			n++
		}
	}
	return n
}

// frame has a worker do a frame: it is told what the model is, which gets the port that it got.
func (b *both) frame(w int, d deed) {
	b.t.Helper()
	c := b.n.Config()
	was := b.m.Bindings()
	flow, _ := model.Whose(c, d.out, d.frame)
	free := 0
	if flow.Proto != 0 {
		free = b.free(w, flow.Proto)
	}
	full := b.n.FullBucket()
	a := alone(b.t, b.n, w, d)
	b.told[a.Err]++
	port := 0
	switch {
	case a.Err == api.ErrNoPort && free == 0:
		port = -1
	case a.Err == api.ErrFull && full:
		port = -2
	case a.Err == api.OK && d.out:
		port = portOf(b.t, a.Frame)
	}
	want := b.m.Step(model.Call{Out: d.out, Frame: d.frame, Tick: d.tick, Port: port})
	if a.Err != want.Err || !bytes.Equal(a.Frame, want.Frame) {
		b.t.Fatalf("%+v by worker %d: %+v, not %+v; so many ports were free: %d, a bucket was full: %v", d, w, a, want, free, full)
	}
	if len(b.m.Bindings()) > len(was) {
		b.owner[plan.Place(c, flow.Proto, port)] = w
	}
	b.check()
}

// sweep has a worker sweep: just those of its bindings come to their end of which the model lets be that.
func (b *both) sweep(w, tick int) {
	b.t.Helper()
	c := b.n.Config()
	var want []nat.End
	for _, x := range b.m.Bindings() {
		i := plan.Place(c, x.Flow.Proto, x.Port)
		if b.owner[i] == w && b.m.Expire(x.Flow.Proto, x.Port, tick) {
			want = append(want, nat.End{Proto: x.Flow.Proto, Port: x.Port})
			delete(b.owner, i)
		}
	}
	alone(b.t, b.n, w, sweeps(tick))
	got := b.n.Ended(w)
	slices.SortFunc(got, func(x, y nat.End) int { return plan.Place(c, x.Proto, x.Port) - plan.Place(c, y.Proto, y.Port) })
	if !slices.Equal(got, want) {
		b.t.Fatalf("worker %d ended %+v at %d, not %+v", w, got, tick, want)
	}
	b.ended += len(got)
	b.check()
}

func (b *both) check() {
	b.t.Helper()
	wantBindings(b.t, b.n, b.m.Bindings())
	wantOneClaim(b.t, b.n)
}

func TestAloneAsTheModel(t *testing.T) {
	t.Parallel()
	rnd := rand.New(rand.NewSource(161))
	told, ended := map[api.Errno]int{}, 0
	for range 60 {
		b := newBoth(t, config(1+rnd.Intn(3), choose(rnd, 1, 2, 5, 20, 40), 2<<rnd.Intn(2)))
		c, tick := b.n.Config(), 0
		for range 250 {
			tick += choose(rnd, 0, 0, 1, 10, 60, 130, 240)
			w, at := rnd.Intn(c.Workers), max(0, tick-rnd.Intn(30))
			switch {
			case rnd.Intn(4) == 0:
				b.sweep(w, at)
			case rnd.Intn(3) == 0: // one of more flows
				b.frame(w, sends(udp(host, far, uint16(rnd.Intn(30)), 53), at))
			default:
				out := rnd.Intn(2) == 0
				b.frame(w, deed{out: out, frame: someFrame(rnd, out, c), tick: at})
			}
		}
		for e, n := range b.told {
			told[e] += n
		}
		ended += b.ended
		wantNothingLeft(t, b.n)
	}
	for _, e := range []api.Errno{api.OK, api.ErrNone, api.ErrNoPort, api.ErrFull} {
		if told[e] < 40 {
			t.Errorf("hardly ever %d: %v", e, told)
		}
	}
	if ended < 500 {
		t.Error("hardly any came to their end:", ended)
	}
}

// TestLives: a binding comes to its end by the first sweep at which its life is over, and by none ahead of it.
func TestLives(t *testing.T) {
	for _, x := range []struct {
		name  string
		deeds []deed
		proto int
		over  int
	}{
		{"udp", []deed{sent(5, 10)}, api.Udp, 130},
		{"udp that went out again", []deed{sent(5, 10), sent(5, 40)}, api.Udp, 160},
		{"udp that went out again at a tick that was over", []deed{sent(5, 40), sent(5, 10)}, api.Udp, 160},
		{"udp to which one came", []deed{sent(5, 10), came(1000, 40)}, api.Udp, 130},
		{"an error about it", []deed{sent(5, 10), sends(fault(gate, far, udp(far, host, 53, 5)), 50), brings(fault(far, outer, udp(outer, far, 1000, 53)), 60)}, api.Udp, 130},
		{"icmp", []deed{sends(echo(false, host, far, 5), 10), brings(echo(true, far, outer, 1000), 20)}, api.Icmp, 70},
		{"tcp that opens", []deed{segment(true, 5, syn, 10)}, api.Tcp, 250},
		{"tcp that is open", []deed{segment(true, 5, syn, 10), segment(false, 1000, syn|ack, 20)}, api.Tcp, 7460},
		{"tcp that is open, and is seen", []deed{segment(true, 5, syn, 10), segment(false, 1000, syn|ack, 20), segment(true, 5, ack, 400)}, api.Tcp, 7840},
		{"tcp that is reset", []deed{segment(true, 5, syn, 10), segment(false, 1000, syn|ack, 20), segment(false, 1000, rst, 15)}, api.Tcp, 260},
		{"tcp that is closed, and opens again", []deed{segment(true, 5, syn, 10), segment(true, 5, rst, 11), segment(true, 5, syn, 12), segment(false, 1000, ack, 13)}, api.Tcp, 7453},
	} {
		n := newNat(t, config(2, 1, 2))
		alone(t, n, 0, x.deeds...)
		for _, tick := range []int{0, x.over - 1, x.over - 1} {
			alone(t, n, 0, sweeps(tick))
			alone(t, n, 1, sweeps(x.over))
			if len(n.Bindings()) != 1 || len(n.Ended(0))+len(n.Ended(1)) != 0 {
				t.Errorf("%s: it came to its end at %d: %+v", x.name, tick, n.Bindings())
			}
		}
		alone(t, n, 0, sweeps(x.over))
		if l := n.Ended(0); len(n.Bindings()) != 0 || !slices.Equal(l, []nat.End{{Proto: x.proto, Port: 1000}}) {
			t.Errorf("%s: it didn't come to its end at %d: %+v, %+v", x.name, x.over, n.Bindings(), l)
		}
		wantNothingLeft(t, n)
	}
}

// TestLifeThatIsCutShort: a connection that was open when it was looked at closes at a tick that is over by then.
func TestLifeThatIsCutShort(t *testing.T) {
	n := newNat(t, config(1, 1, 2))
	alone(t, n, 0, segment(true, 5, syn, 10), segment(false, 1000, syn|ack, 20), sweeps(5000), sweeps(6000))
	if len(n.Bindings()) != 1 {
		t.Fatalf("%+v", n.Bindings())
	}
	alone(t, n, 0, segment(true, 5, rst, 30), sweeps(269))
	if len(n.Bindings()) != 1 {
		t.Fatalf("%+v", n.Bindings())
	}
	alone(t, n, 0, sweeps(270))
	if l := n.Ended(0); len(l) != 1 || len(n.Bindings()) != 0 {
		t.Errorf("%+v, %+v", l, n.Bindings())
	}
}

// TestALifeWithoutEnd: there is no tick at which it is over.
func TestALifeWithoutEnd(t *testing.T) {
	n := newNat(t, config(1, 2, 2))
	alone(t, n, 0, sent(5, maxTick-119), sent(6, maxTick-120), sweeps(maxTick), sweeps(maxTick), sweeps(maxTick))
	if l := n.Bindings(); len(l) != 1 || l[0].Flow.Port != 5 {
		t.Errorf("%+v", l)
	}
	wantOneClaim(t, n)
}

// TestEndsOfTheLastSweep: those that a sweep told are told no more when the next one has begun.
func TestEndsOfTheLastSweep(t *testing.T) {
	n := newNat(t, config(1, 10, 4))
	alone(t, n, 0, sent(5, 30), sent(6, 10), sends(echo(false, host, far, 5), 50))
	begin(n, 0, sweeps(500))
	for last := 0; !n.Do(0); {
		l := n.Ended(0)
		if len(l) < last || len(l) > last+1 || len(l)+len(n.Bindings()) != 3 {
			t.Fatalf("%+v, %+v", l, n.Bindings())
		}
		last = len(l)
	}
	if len(n.Ended(0)) != 3 {
		t.Errorf("%+v", n.Ended(0))
	}
	alone(t, n, 0, sent(7, 500))
	if len(n.Ended(0)) != 3 {
		t.Error("a frame took away what the last sweep ended")
	}
	begin(n, 0, sweeps(501))
	if len(n.Ended(0)) != 0 {
		t.Error("it is another sweep's")
	}
}

// TestSpill: a worker's cache keeps no more than 16; the others go back to the pool, for all workers.
func TestSpill(t *testing.T) {
	n := newNat(t, config(2, 40, 64))
	for k := range 40 {
		if a := alone(t, n, 0, sent(uint16(k), 1)); a.Err != api.OK {
			t.Fatalf("%d: %+v", k, a)
		}
	}
	if a := alone(t, n, 1, sent(50, 1)); a.Err != api.ErrNoPort {
		t.Fatalf("%+v", a)
	}
	kinds := map[int]int{}
	alone(t, n, 0, sweeps(121), sweeps(121))
	for port := 1000; port < 1040; port++ {
		kinds[n.Claims(api.Udp, port)[0].Kind]++
	}
	if kinds[nat.Cached] != 16 || kinds[nat.Pooled] != 24 {
		t.Errorf("%v", kinds)
	}
	if a := alone(t, n, 1, sent(50, 1)); a.Err != api.OK {
		t.Errorf("%+v", a)
	}
}

// TestWhoWaitsForAPort: what was retired comes back two epochs later, and no sooner.
func TestWhoWaitsForAPort(t *testing.T) {
	n := newNat(t, config(2, 1, 2))
	alone(t, n, 0, sent(5, 1))
	// One who is pinned when it becomes Gone stops it, however often it is swept.
	begin(n, 1, sent(7, 130))
	for k := 0; k < 10 && !n.Pinned(1); k++ {
		n.Do(1)
	}
	for range 5 {
		alone(t, n, 0, sweeps(130))
	}
	if l := n.Claims(api.Udp, 1000); !slices.Equal(l, []nat.Claim{{Kind: nat.Retired}}) {
		t.Errorf("%+v", l)
	}
	if a := alone(t, n, 0, sent(6, 130)); a.Err != api.ErrNoPort {
		t.Errorf("%+v", a)
	}
	for !n.Do(1) {
	}
	alone(t, n, 0, sweeps(130))
	if l := n.Claims(api.Udp, 1000); !slices.Equal(l, []nat.Claim{{Kind: nat.Cached}}) {
		t.Errorf("%+v", l)
	}
	if a := alone(t, n, 0, sent(6, 130)); a.Err != api.OK {
		t.Errorf("%+v", a)
	}
}

// TestNoRoom: the port of a frame for which there is no room is in its worker's cache again.
func TestNoRoom(t *testing.T) {
	n := newNat(t, config(1, 20, 2))
	for k := range 8 {
		if a := alone(t, n, 0, sent(uint16(k), 1)); a.Err != api.OK {
			t.Fatalf("%d: %+v", k, a)
		}
	}
	for range 3 {
		if a := alone(t, n, 0, sent(8, 1)); a.Err != api.ErrFull || a.Frame != nil {
			t.Fatalf("%+v", a)
		}
		if l := n.Claims(api.Udp, 1008); !slices.Equal(l, []nat.Claim{{Kind: nat.Cached}}) {
			t.Fatalf("%+v", l)
		}
	}
	// Those of other flows go on.
	if a := alone(t, n, 0, sent(3, 2)); a.Err != api.OK {
		t.Errorf("%+v", a)
	}
	alone(t, n, 0, sweeps(121))
	if a := alone(t, n, 0, sent(8, 122)); a.Err != api.OK || portOf(t, a.Frame) != 1008 {
		t.Errorf("%+v", a)
	}
}

// TestAllPorts has the greatest translator that there is bind all its ports, and then again: caches keep what came back to them, so each worker does what it did.
func TestAllPorts(t *testing.T) {
	c := config(64, 1024, 1024)
	n := newNat(t, c)
	for round := range 2 {
		tick := 1000 * round
		for k := range 3 * 1024 {
			src := uint32(host + k)
			f := [][]byte{udp(src, far, 5, 53), tcp(src, far, 5, 53, syn), echo(false, src, far, 5)}[k%3]
			if a := alone(t, n, k/3/16, sends(f, tick)); a.Err != api.OK {
				t.Fatalf("frame %d: %+v", k, a)
			}
		}
		l := n.Bindings()
		if len(l) != plan.Places(c) {
			t.Fatalf("so many bindings: %d", len(l))
		}
		for i, x := range l {
			life := track.Life(x.Flow.Proto, x.Track)
			if plan.Place(c, x.Flow.Proto, x.Port) != i || x.Seen != tick || life == 0 {
				t.Fatalf("%d: %+v", i, x)
			}
		}
		wantOneClaim(t, n)
		for range 3 {
			for w := range c.Workers {
				alone(t, n, w, sweeps(tick+900))
			}
		}
		wantBindings(t, n, nil)
	}
}

// TestLongFrames: the greatest frame that there is goes on whole.
func TestLongFrames(t *testing.T) {
	n := newNat(t, config(1, 1, 2))
	carried := make([]byte, 1480)
	f := lay(api.Udp, host, far, carried)
	f[24], f[25] = byte(1480>>8), byte(1480&255)
	f[20], f[21] = 0, 5
	a := alone(t, n, 0, sends(f, 1))
	h, e := head.Get(a.Frame)
	if a.Err != api.OK || e != api.OK || h.Len != 1500 || h.Src != outer || portOf(t, a.Frame) != 1000 {
		t.Errorf("%d, %d, %+v", a.Err, e, h)
	}
}
