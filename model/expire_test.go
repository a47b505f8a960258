package model_test

import (
	"math"
	"math/rand"
	"slices"
	"testing"

	"fanlight/api"
	"fanlight/model"
	"fanlight/plan"
)

// wantLife wants the one binding of n to be gone from a tick on, and not ahead of it.
func wantLife(t *testing.T, n *model.Nat, proto, port, over int) {
	t.Helper()
	was := n.Bindings()
	for _, tick := range []int{-1, 0, over - 1, math.MinInt, math.MaxInt, maxTick + 1} {
		if n.Expire(proto, port, tick) {
			t.Errorf("protocol %d is gone at %d, not at %d", proto, tick, over)
		}
	}
	wantBindings(t, n, was...)
	for _, tick := range []int{over, over + 1, maxTick} {
		m := n.Copy()
		if !m.Expire(proto, port, tick) || len(m.Bindings()) != len(was)-1 {
			t.Errorf("protocol %d isn't gone at %d", proto, tick)
		}
		if m.Expire(proto, port, tick) {
			t.Errorf("protocol %d is gone twice", proto)
		}
	}
	wantBindings(t, n, was...)
}

func TestLives(t *testing.T) {
	n := newNat(t, config())
	send(t, n, udp(host, far, 5, 53), 7, 1000, 1000)
	wantLife(t, n, api.Udp, 1000, 127)
	send(t, n, udp(host, far, 5, 53), 20, 0, 1000)
	wantLife(t, n, api.Udp, 1000, 140)
	send(t, n, echo(false, host, far, 5), 7, 1001, 1001)
	wantLife(t, n, api.Icmp, 1001, 67)
	send(t, n, tcp(host, far, 5, 80, syn), 7, 1002, 1002)
	wantLife(t, n, api.Tcp, 1002, 247)
	bring(t, n, tcp(far, outer, 80, 1002, syn|ack), 9, host, 5)
	wantLife(t, n, api.Tcp, 1002, 7449)
	send(t, n, tcp(host, far, 5, 80, fin), 9, 0, 1002)
	wantLife(t, n, api.Tcp, 1002, 249)
	bring(t, n, tcp(far, outer, 80, 1002, fin), 9, host, 5)
	wantLife(t, n, api.Tcp, 1002, 249)
}

func TestExpireOfWhatThereIsnt(t *testing.T) {
	n := newNat(t, config())
	send(t, n, udp(host, far, 5, 53), 0, 1000, 1000)
	was := n.Bindings()
	for _, x := range [][2]int{{6, 1000}, {1, 1000}, {17, 1001}, {17, 999}, {17, 1010}, {17, 0}, {17, -1}, {0, 0}, {2, 1000}, {-17, 1000}, {17, 65536 + 1000}, {1<<32 + 17, 1000}, {17, math.MaxInt}, {math.MinInt, math.MinInt}} {
		if n.Expire(x[0], x[1], maxTick) {
			t.Errorf("%v is gone", x)
		}
	}
	wantBindings(t, n, was...)
}

// TestTheLastTicks has bindings whose life ends when there is no tick any more, and one whose life ends at the last one.
func TestTheLastTicks(t *testing.T) {
	n := newNat(t, config())
	send(t, n, udp(host, far, 5, 53), maxTick-119, 1000, 1000)
	send(t, n, udp(host, far, 6, 53), maxTick-120, 1001, 1001)
	send(t, n, udp(host, far, 7, 53), maxTick, 1002, 1002)
	for _, tick := range []int{maxTick, maxTick + 1, maxTick + 120, maxTick + 1000, math.MaxInt} {
		if n.Expire(17, 1000, tick) || n.Expire(17, 1002, tick) {
			t.Errorf("gone at %d", tick)
		}
	}
	if n.Expire(17, 1001, maxTick-1) || n.Expire(17, 1001, maxTick+1) || !n.Expire(17, 1001, maxTick) {
		t.Error("the last tick")
	}
}

// TestWhatIsGoneIsGone has both a flow and a port that had a binding, and have another one then.
func TestWhatIsGoneIsGone(t *testing.T) {
	n := newNat(t, config())
	send(t, n, tcp(host, far, 5, 80, syn), 0, 1000, 1000)
	if !n.Expire(6, 1000, 240) {
		t.Fatal("it isn't gone")
	}
	refuse(t, n, model.Call{Frame: tcp(far, outer, 80, 1000, ack).bytes(), Tick: 240}, api.ErrNone)
	refuse(t, n, model.Call{Out: true, Frame: tcp(host, far, 5, 80, ack).bytes(), Tick: 240, Port: 1000}, api.ErrNone)
	refuse(t, n, model.Call{Out: true, Frame: tcp(host, far, 5, 80, syn).bytes(), Tick: 240, Port: -1}, api.ErrNoPort)
	send(t, n, tcp(another, far, 5, 80, syn), 241, 1000, 1000)
	send(t, n, tcp(host, far, 5, 80, syn), 200, 1001, 1001)
	bring(t, n, tcp(far, outer, 80, 1000, 0), 241, another, 5)
	bring(t, n, tcp(far, outer, 80, 1001, 0), 200, host, 5)
	wantBindings(t, n, bound(6, another, 5, 1000, 0, 241), bound(6, host, 5, 1001, 0, 200))
}

// TestAllPlacesInOrder fills a translator wholly, in an order that isn't theirs, and empties it again.
func TestAllPlacesInOrder(t *testing.T) {
	c := config()
	c.Lo, c.Hi = 2000, 3023
	n := newNat(t, c)
	r := rand.New(rand.NewSource(15))
	want := make([]model.Binding, plan.Places(c))
	for _, place := range r.Perm(len(want)) {
		proto, port := plan.Port(c, place)
		f := udp(host+uint32(place), far, uint16(place), 53)
		f.proto, f.flags = proto, syn
		if proto == api.Icmp {
			f.to = f.from
		}
		want[place] = model.Binding{Flow: f.flow(true), Port: port, Seen: place}
		if a := n.Step(model.Call{Out: true, Frame: f.bytes(), Tick: place, Port: port}); a.Err != api.OK {
			t.Fatal(place, a.Err)
		}
	}
	wantBindings(t, n, want...)
	for _, port := range []int{2000, 2500, 3023} {
		refuse(t, n, model.Call{Out: true, Frame: udp(another, midway, 1, 2).bytes(), Port: port}, api.ErrArg)
	}
	for i, place := range r.Perm(len(want)) {
		proto, port := plan.Port(c, place)
		if !n.Expire(proto, port, maxTick) {
			t.Fatal("place", place, "isn't gone")
		}
		want[place] = model.Binding{}
		if i%100 == 0 {
			left := slices.DeleteFunc(slices.Clone(want), func(b model.Binding) bool { return b == model.Binding{} })
			wantBindings(t, n, left...)
		}
	}
	wantBindings(t, n)
}

func TestCopiesGoTheirOwnWays(t *testing.T) {
	n := newNat(t, config())
	send(t, n, udp(host, far, 5, 53), 1, 1000, 1000)
	m := n.Copy()
	wantBindings(t, m, n.Bindings()...)
	send(t, n, udp(host, far, 5, 53), 50, 0, 1000)
	wantBindings(t, m, bound(17, host, 5, 1000, 0, 1))
	send(t, m, udp(another, far, 5, 53), 2, 1001, 1001)
	wantBindings(t, n, bound(17, host, 5, 1000, 0, 50))
	refuse(t, n, model.Call{Frame: udp(far, outer, 53, 1001).bytes()}, api.ErrNone)
	refuse(t, n, model.Call{Out: true, Frame: udp(another, far, 5, 53).bytes(), Port: -1}, api.ErrNoPort)
	if !m.Expire(17, 1000, 121) {
		t.Error("it isn't gone from the copy")
	}
	bring(t, n, udp(far, outer, 53, 1000), 60, host, 5)
	send(t, n, udp(host, far, 5, 53), 60, -1, 1000)
	refuse(t, m, model.Call{Frame: udp(far, outer, 53, 1000).bytes()}, api.ErrNone)
	refuse(t, m, model.Call{Out: true, Frame: udp(host, far, 5, 53).bytes(), Port: -1}, api.ErrNoPort)
	send(t, m, udp(host, far, 5, 53), 3, 1009, 1009)
	wantBindings(t, m, bound(17, another, 5, 1001, 0, 2), bound(17, host, 5, 1009, 0, 3))
	wantBindings(t, n, bound(17, host, 5, 1000, 0, 60))
}
