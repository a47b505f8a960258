package model_test

import (
	"math"
	"testing"

	"fanlight/api"
	"fanlight/model"
	"fanlight/plan"
	"fanlight/sample"
	"fanlight/track"
)

func TestExample(t *testing.T) {
	n := newNat(t, config())
	send(t, n, udp(host, far, 5, 53), 3, 1000, 1000)
	bring(t, n, udp(far, outer, 53, 1000), 50, host, 5)
	if n.Expire(api.Udp, 1000, 122) {
		t.Error("gone at 122")
	}
	wantBindings(t, n, bound(17, host, 5, 1000, 0, 3))
	if !n.Expire(api.Udp, 1000, 123) {
		t.Error("not gone at 123")
	}
	wantBindings(t, n)
}

func TestNew(t *testing.T) {
	right := config()
	wrong := map[string]func(c *plan.Config){
		"workers": func(c *plan.Config) { c.Workers = 0 },
		"outer":   func(c *plan.Config) { c.Outer = 0 },
		"ports":   func(c *plan.Config) { c.Hi = 999 },
		"buckets": func(c *plan.Config) { c.Buckets = 3 },
		"ring":    func(c *plan.Config) { c.Ring = 257 },
	}
	for what, spoil := range wrong {
		c := right
		spoil(&c)
		if n, e := model.New(c); n != nil || e != api.ErrArg {
			t.Errorf("%s: %v %d", what, n, e)
		}
	}
	if n, e := model.New(plan.Config{}); n != nil || e != api.ErrArg {
		t.Error(n, e)
	}
	wantBindings(t, newNat(t, right))
}

func TestNilAndTheZeroValue(t *testing.T) {
	var none *model.Nat
	for _, x := range []model.Call{{}, {Tick: -1}, {Out: true, Frame: udp(host, far, 5, 53).bytes(), Port: 1000}, {Frame: udp(far, outer, 53, 1000).bytes()}} {
		if a := none.Step(x); a.Err != api.ErrArg || len(a.Frame) != 0 {
			t.Errorf("%+v: %+v", x, a)
		}
	}
	if none.Expire(17, 1000, maxTick) || len(none.Bindings()) != 0 || none.Copy() != nil {
		t.Error("nil has something")
	}
	// It has no plan, so no port is one of its own.
	zero := &model.Nat{}
	refuse(t, zero, model.Call{Out: true, Frame: udp(host, far, 5, 53).bytes(), Port: 1000}, api.ErrArg)
	refuse(t, zero, model.Call{Frame: udp(far, 0, 53, 0).bytes()}, api.ErrNone)
	if zero.Expire(17, 0, maxTick) || len(zero.Copy().Bindings()) != 0 {
		t.Error("the zero value has something")
	}
}

func TestTicksThatCantBe(t *testing.T) {
	n := newNat(t, config())
	send(t, n, udp(host, far, 5, 53), 3, 1000, 1000)
	good := udp(host, far, 5, 53).bytes()
	for _, tick := range []int{-1, maxTick + 1, 1 << 33, math.MinInt, math.MaxInt} {
		refuse(t, n, model.Call{Out: true, Frame: good, Tick: tick, Port: 1001}, api.ErrArg)
		refuse(t, n, model.Call{Out: true, Frame: udp(another, far, 5, 53).bytes(), Tick: tick, Port: 1001}, api.ErrArg)
		refuse(t, n, model.Call{Frame: udp(far, outer, 53, 1000).bytes(), Tick: tick}, api.ErrArg)
		refuse(t, n, model.Call{Frame: udp(far, host, 53, 1000).bytes(), Tick: tick}, api.ErrArg)
		refuse(t, n, model.Call{Out: true, Frame: good[:19], Tick: tick}, api.ErrArg)
		refuse(t, n, model.Call{Out: true, Frame: good, Tick: tick, Port: -1}, api.ErrArg)
	}
	for _, tick := range []int{0, maxTick} {
		n := newNat(t, config())
		send(t, n, udp(host, far, 5, 53), tick, 1000, 1000)
		bring(t, n, udp(far, outer, 53, 1000), tick, host, 5)
		wantBindings(t, n, bound(17, host, 5, 1000, 0, tick))
	}
}

func TestFramesThatCantBeGot(t *testing.T) {
	for _, dst := range []uint32{outer, far} {
		n := newNat(t, config())
		send(t, n, udp(host, far, 5, 53), 3, 1000, 1000)
		for _, s := range sample.Spoiled(host, dst) {
			for _, port := range []int{1001, 1000, 7, -1, -2} {
				refuse(t, n, model.Call{Out: true, Frame: s.Frame, Tick: 9, Port: port}, s.Why)
				refuse(t, n, model.Call{Frame: s.Frame, Tick: 9, Port: port}, s.Why)
			}
		}
	}
}

// TestABindingThatIsThere has each kind of frame go out by it, whatever port the Call tells.
func TestABindingThatIsThere(t *testing.T) {
	n := newNat(t, config())
	send(t, n, udp(host, far, 5, 53), 0, 1003, 1003)
	send(t, n, tcp(host, far, 5, 80, syn), 0, 1005, 1005)
	send(t, n, echo(false, host, far, 5), 0, 1007, 1007)
	send(t, n, udp(another, far, 5, 53), 0, 1001, 1001)
	for _, asked := range []int{1000, 1001, 1003, 1009, 0, 7, -1, -2, -3, math.MinInt, math.MaxInt} {
		send(t, n, udp(host, farther, 5, 99), 0, asked, 1003)
		send(t, n, tcp(host, farther, 5, 99, ack), 0, asked, 1005)
		send(t, n, echo(true, host, farther, 5), 0, asked, 1007)
		send(t, n, fault(host, far, udp(far, host, 53, 5)), 0, asked, 1003)
		send(t, n, fault(gate, far, tcp(far, host, 80, 5, ack)), 0, asked, 1005)
		send(t, n, fault(gate, far, echo(true, far, host, 5)), 0, asked, 1007)
	}
	wantBindings(t, n, bound(1, host, 5, 1007, 0, 0), bound(6, host, 5, 1005, 0, 0), bound(17, another, 5, 1001, 0, 0), bound(17, host, 5, 1003, 0, 0))
}

func TestWhatBeginsNone(t *testing.T) {
	n := newNat(t, config())
	send(t, n, udp(another, far, 5, 53), 0, 1003, 1003)
	for _, f := range []frame{
		tcp(host, far, 5, 80, 0), tcp(host, far, 5, 80, ack), tcp(host, far, 5, 80, syn|ack), tcp(host, far, 5, 80, syn|fin), tcp(host, far, 5, 80, syn|rst),
		tcp(host, far, 5, 80, rst), tcp(host, far, 5, 80, fin), echo(true, host, far, 5),
		fault(host, far, udp(far, host, 53, 5)), fault(host, far, tcp(far, host, 80, 5, syn)), fault(host, far, echo(false, far, host, 5)),
	} {
		for _, port := range []int{1000, 1003, 1010, 0, -1, -2, -3} {
			refuse(t, n, model.Call{Out: true, Frame: f.bytes(), Tick: 1, Port: port}, api.ErrNone)
		}
	}
}

func TestPortsThatCantBe(t *testing.T) {
	for _, f := range []frame{udp(host, far, 5, 53), tcp(host, far, 5, 80, syn), tcp(host, far, 5, 80, syn|psh), echo(false, host, far, 5)} {
		n := newNat(t, config())
		first := f.goneOut(another, 5)
		send(t, n, first, 0, 1004, 1004)
		call := func(port int) model.Call { return model.Call{Out: true, Frame: f.bytes(), Tick: 1, Port: port} }
		refuse(t, n, call(-1), api.ErrNoPort)
		refuse(t, n, call(-2), api.ErrFull)
		for _, port := range []int{-3, 0, 1, 999, 1010, 65535, 65536, 65536 + 1000, 1<<32 + 1000, -1000, math.MinInt, math.MaxInt} {
			refuse(t, n, call(port), api.ErrArg)
		}
		refuse(t, n, call(1004), api.ErrArg)
		send(t, n, f, 1, 1000, 1000)
		wantBindings(t, n, bound(f.proto, host, 5, 1000, 0, 1), bound(f.proto, another, 5, 1004, 0, 0))
	}
}

// TestOneFlowIsOneOfEachProtocol has flows that have all but one thing in common: each has a port of its own.
func TestOneFlowIsOneOfEachProtocol(t *testing.T) {
	n := newNat(t, config())
	send(t, n, udp(host, far, 5, 53), 1, 1000, 1000)
	send(t, n, tcp(host, far, 5, 53, syn), 2, 1000, 1000)
	send(t, n, echo(false, host, far, 5), 3, 1000, 1000)
	send(t, n, udp(another, far, 5, 53), 4, 1001, 1001)
	send(t, n, udp(host, far, 6, 53), 5, 1002, 1002)
	wantBindings(t, n,
		bound(1, host, 5, 1000, 0, 3), bound(6, host, 5, 1000, 0, 2),
		bound(17, host, 5, 1000, 0, 1), bound(17, another, 5, 1001, 0, 4), bound(17, host, 6, 1002, 0, 5))
	bring(t, n, tcp(far, outer, 53, 1000, 0), 2, host, 5)
	bring(t, n, udp(far, outer, 53, 1002), 2, host, 6)
	bring(t, n, udp(far, outer, 53, 1001), 2, another, 5)
}

// TestWhatComesBack is P15.3: whoever sends it, also an error from midway.
func TestWhatComesBack(t *testing.T) {
	n := newNat(t, config())
	send(t, n, udp(host, far, 5, 53), 0, 1003, 1003)
	send(t, n, tcp(another, far, 6, 80, syn), 0, 1005, 1005)
	send(t, n, echo(false, host, far, 7), 0, 1007, 1007)
	for _, from := range []uint32{far, farther, midway, outer, host, another, 0} {
		for _, port := range []uint16{53, 80, 0, 65535, 1003} {
			bring(t, n, udp(from, outer, port, 1003), 0, host, 5)
			bring(t, n, tcp(from, outer, port, 1005, 0), 0, another, 6)
			bring(t, n, fault(from, outer, udp(outer, far, 1003, port)), 0, host, 5)
			bring(t, n, fault(from, outer, tcp(outer, farther, 1005, port, syn)), 0, another, 6)
		}
		bring(t, n, echo(true, from, outer, 1007), 0, host, 7)
		bring(t, n, echo(false, from, outer, 1007), 0, host, 7)
		bring(t, n, fault(from, outer, echo(false, outer, far, 1007)), 0, host, 7)
	}
}

func TestWhatComesToNobody(t *testing.T) {
	n := newNat(t, config())
	send(t, n, udp(host, far, 5, 53), 0, 1003, 1003)
	for _, port := range []uint16{0, 5, 53, 999, 1000, 1002, 1004, 1009, 1010, 65535} {
		for _, f := range []frame{
			udp(far, outer, 53, port), tcp(far, outer, 53, port, syn), echo(false, far, outer, port),
			fault(midway, outer, udp(outer, far, port, 53)), fault(midway, outer, tcp(outer, far, port, 53, 0)), fault(midway, outer, echo(false, outer, far, port)),
		} {
			refuse(t, n, model.Call{Frame: f.bytes(), Tick: 9, Port: 1000}, api.ErrNone)
			refuse(t, n, model.Call{Frame: f.bytes(), Tick: 9, Port: -1}, api.ErrNone)
		}
	}
	// That port of another protocol, and that flow's own address and port, are nobody's outside.
	refuse(t, n, model.Call{Frame: tcp(far, outer, 53, 1003, ack).bytes(), Tick: 9}, api.ErrNone)
	refuse(t, n, model.Call{Frame: echo(true, far, outer, 1003).bytes(), Tick: 9}, api.ErrNone)
	refuse(t, n, model.Call{Frame: udp(far, host, 53, 1003).bytes(), Tick: 9}, api.ErrNone)
	refuse(t, n, model.Call{Frame: fault(midway, outer, udp(host, far, 1003, 53)).bytes(), Tick: 9}, api.ErrNone)
	refuse(t, n, model.Call{Frame: fault(midway, host, udp(outer, far, 1003, 53)).bytes(), Tick: 9}, api.ErrNone)
}

func TestHowAConnectionStands(t *testing.T) {
	n := newNat(t, config())
	wantTrack := func(state, seen int) {
		t.Helper()
		wantBindings(t, n, bound(6, host, 5, 1000, state, seen))
	}
	out := func(flags, tick int) { t.Helper(); send(t, n, tcp(host, far, 5, 80, flags), tick, 1000, 1000) }
	in := func(flags, tick int) { t.Helper(); bring(t, n, tcp(far, outer, 80, 1000, flags), tick, host, 5) }
	out(syn, 3)
	wantTrack(track.Opening, 3)
	out(ack, 4)
	wantTrack(track.Opening, 4)
	in(syn|ack, 10)
	wantTrack(track.Open, 10)
	// An older tick changes how it stands, but doesn't let it be seen earlier.
	out(fin|ack, 5)
	wantTrack(track.HalfOut, 10)
	in(fin|ack, 10)
	wantTrack(track.Closed, 10)
	in(syn, 11)
	wantTrack(track.Closed, 11)
	out(syn, 12)
	wantTrack(track.Opening, 12)
	in(ack, 0)
	wantTrack(track.Open, 12)
	in(fin, 13)
	wantTrack(track.HalfIn, 13)
	out(fin, 14)
	wantTrack(track.Closed, 14)
	out(syn, 15)
	in(rst, 16)
	wantTrack(track.Closed, 16)
	out(syn, 17)
	out(rst, 18)
	wantTrack(track.Closed, 18)
}

func TestSeenByWhatGoesOutAlone(t *testing.T) {
	n := newNat(t, config())
	send(t, n, udp(host, far, 5, 53), 100, 1000, 1000)
	send(t, n, echo(false, host, far, 5), 100, 1000, 1000)
	want := func(seen int) {
		t.Helper()
		wantBindings(t, n, bound(1, host, 5, 1000, 0, seen), bound(17, host, 5, 1000, 0, seen))
	}
	want(100)
	bring(t, n, udp(far, outer, 53, 1000), 110, host, 5)
	bring(t, n, echo(true, far, outer, 1000), 110, host, 5)
	want(100)
	send(t, n, udp(host, far, 5, 53), 99, 0, 1000)
	send(t, n, echo(false, host, far, 5), 99, 0, 1000)
	want(100)
	send(t, n, udp(host, farther, 5, 9), 101, 0, 1000)
	send(t, n, echo(true, host, farther, 5), 101, 0, 1000)
	want(101)
}

// TestErrorsChangeNothing has errors about packets that would change much, had they come themselves.
func TestErrorsChangeNothing(t *testing.T) {
	n := newNat(t, config())
	send(t, n, udp(host, far, 5, 53), 1, 1000, 1000)
	send(t, n, tcp(host, far, 5, 80, syn), 1, 1000, 1000)
	send(t, n, echo(false, host, far, 5), 1, 1000, 1000)
	was := n.Bindings()
	for _, flags := range []int{0, ack, fin, rst, syn, syn | ack} {
		send(t, n, fault(host, far, tcp(far, host, 80, 5, flags)), 50, 1001, 1000)
		bring(t, n, fault(far, outer, tcp(outer, far, 1000, 80, flags)), 50, host, 5)
	}
	send(t, n, fault(host, far, udp(far, host, 53, 5)), 50, 1001, 1000)
	send(t, n, fault(host, far, echo(true, far, host, 5)), 50, 1001, 1000)
	bring(t, n, fault(far, outer, udp(outer, far, 1000, 53)), 50, host, 5)
	bring(t, n, fault(far, outer, echo(false, outer, far, 1000)), 50, host, 5)
	wantBindings(t, n, was...)
}

func TestPortsAtTheEdges(t *testing.T) {
	for _, x := range []struct{ lo, hi int }{{1, 1}, {65535, 65535}, {1, 1024}, {64512, 65535}} {
		c := config()
		c.Lo, c.Hi = x.lo, x.hi
		for _, port := range []int{x.lo, x.hi} {
			n := newNat(t, c)
			send(t, n, udp(host, far, 65535, 53), 1, port, port)
			bring(t, n, udp(far, outer, 53, uint16(port)), 1, host, 65535)
			wantBindings(t, n, bound(17, host, 65535, port, 0, 1))
			refuse(t, n, model.Call{Out: true, Frame: udp(host, far, 0, 53).bytes(), Port: x.lo - 1}, api.ErrArg)
			refuse(t, n, model.Call{Out: true, Frame: udp(host, far, 0, 53).bytes(), Port: x.hi + 1}, api.ErrArg)
		}
	}
}
