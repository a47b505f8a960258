package model_test

import (
	"bytes"
	"math/rand"
	"slices"
	"testing"

	"fanlight/api"
	"fanlight/model"
	"fanlight/plan"
	"fanlight/track"
)

// plainNat is a translator that looks through all its bindings, one by one, and is told what a frame is made of.
type plainNat struct {
	c    plan.Config
	list []*model.Binding
}

func (n *plainNat) find(is func(b *model.Binding) bool) *model.Binding {
	if i := slices.IndexFunc(n.list, is); i >= 0 {
		return n.list[i]
	}
	return nil
}

func (n *plainNat) ofFlow(f api.Flow) *model.Binding {
	return n.find(func(b *model.Binding) bool { return b.Flow == f })
}

func (n *plainNat) ofPort(proto, port int) *model.Binding {
	return n.find(func(b *model.Binding) bool { return b.Flow.Proto == proto && b.Port == port })
}

func (n *plainNat) step(f frame, out bool, tick, port int) (frame, api.Errno) {
	if out {
		return n.out(f, tick, port)
	}
	flow := f.flow(false)
	if f.isError && f.told != n.c.Outer || flow.Addr != n.c.Outer {
		return frame{}, api.ErrNone
	}
	b := n.ofPort(flow.Proto, int(flow.Port))
	if b == nil {
		return frame{}, api.ErrNone
	}
	n.see(b, f, false, tick)
	return f.comeIn(b.Flow.Addr, b.Flow.Port), api.OK
}

func (n *plainNat) out(f frame, tick, port int) (frame, api.Errno) {
	flow := f.flow(true)
	b := n.ofFlow(flow)
	if b != nil {
		n.see(b, f, true, tick)
		return f.goneOut(n.c.Outer, uint16(b.Port)), api.OK
	}
	asks := f.proto == api.Udp || f.proto == api.Tcp && f.flags&(fin|syn|rst|ack) == syn || f.proto == api.Icmp && !f.reply
	switch {
	case f.isError || !asks:
		return frame{}, api.ErrNone
	case port == -1:
		return frame{}, api.ErrNoPort
	case port == -2:
		return frame{}, api.ErrFull
	case port < n.c.Lo || port > n.c.Hi || n.ofPort(f.proto, port) != nil:
		return frame{}, api.ErrArg
	}
	n.list = append(n.list, &model.Binding{Flow: flow, Port: port, Seen: tick})
	return f.goneOut(n.c.Outer, uint16(port)), api.OK
}

func (n *plainNat) see(b *model.Binding, f frame, out bool, tick int) {
	if f.isError {
		return
	}
	if f.proto == api.Tcp {
		b.Track = track.Next(api.Tcp, b.Track, out, f.flags)
	}
	if (out || f.proto == api.Tcp) && tick > b.Seen {
		b.Seen = tick
	}
}

func (n *plainNat) expire(proto, port, tick int) bool {
	b := n.ofPort(proto, port)
	if b == nil {
		return false
	}
	life := map[int]int{1: 60, 6: 240, 17: 120}[proto]
	if proto == api.Tcp && b.Track == track.Open {
		life = 7440
	}
	if tick < b.Seen+life {
		return false
	}
	n.list = slices.DeleteFunc(n.list, func(x *model.Binding) bool { return x == b })
	return true
}

func (n *plainNat) bindings() []model.Binding {
	var l []model.Binding
	for _, b := range n.list {
		l = append(l, *b)
	}
	slices.SortFunc(l, func(a, b model.Binding) int { return (a.Flow.Proto-b.Flow.Proto)*100000 + a.Port - b.Port })
	return l
}

func choose[T any](r *rand.Rand, l ...T) T { return l[r.Intn(len(l))] }

// someFrame is one of few flows, that goes out or comes in, so that many find their binding.
func someFrame(r *rand.Rand, out bool) frame {
	hosts := []uint32{host, another, gate, outer}
	fars := []uint32{far, farther, host}
	own, there := choose(r, hosts...), choose(r, fars...)
	p := packet{
		proto: choose(r, 1, 6, 17), src: own, dst: there,
		from: uint16(choose(r, 5, 6, 1000)), to: uint16(choose(r, 53, 80)),
		flags: choose(r, syn, syn, syn, ack, syn|ack, fin, fin|ack, rst, 0, psh),
		reply: r.Intn(3) == 0,
	}
	if !out {
		p.src, p.dst, p.from, p.to = there, choose(r, uint32(outer), outer, outer, own), p.to, uint16(998+r.Intn(8))
	}
	isError := r.Intn(5) == 0
	if isError { // what it is about went the other way
		p.src, p.dst, p.from, p.to = p.dst, p.src, p.to, p.from
	}
	if p.proto == api.Icmp {
		p.to = choose(r, p.to, p.from)
		p.from = p.to
	}
	f := plain(p)
	if isError {
		f = fault(choose(r, own, midway), choose(r, uint32(outer), outer, outer, far), f)
	}
	return f
}

// wantOneEach is P15.2.
func wantOneEach(t *testing.T, l []model.Binding) {
	t.Helper()
	flows, ports := map[api.Flow]int{}, map[[2]int]int{}
	for _, b := range l {
		flows[b.Flow]++
		ports[[2]int{b.Flow.Proto, b.Port}]++
		if flows[b.Flow] > 1 || ports[[2]int{b.Flow.Proto, b.Port}] > 1 {
			t.Fatalf("two of a flow, or of a port: %+v", l)
		}
	}
}

// wantBack is P15.3: what answers a frame that went out goes to who sent it, whoever answers.
func wantBack(t *testing.T, n *model.Nat, sent frame, told []byte, from uint32) {
	t.Helper()
	port := uint16(told[20])<<8 | uint16(told[21])
	answered := plain(packet{proto: sent.proto, src: from, dst: outer, from: sent.to, to: port})
	if sent.proto == api.Icmp {
		port = uint16(told[24])<<8 | uint16(told[25])
		answered = echo(true, from, outer, port)
	}
	bring(t, n.Copy(), answered, 0, sent.src, sent.from)
	bring(t, n.Copy(), fault(from, outer, sent.goneOut(outer, port)), 0, sent.src, sent.from)
}

// counts is how often each thing came to be, so that a test knows what it saw.
type counts struct {
	errs  map[[2]int]int
	ended int
}

func (k *counts) add(out bool, e api.Errno) {
	way := 0
	if out {
		way = 1
	}
	k.errs[[2]int{way, int(e)}]++
}

func oneStep(t *testing.T, r *rand.Rand, n *model.Nat, p *plainNat, tick int, k *counts) {
	t.Helper()
	out := r.Intn(2) == 0
	f := someFrame(r, out)
	port := choose(r, 999+r.Intn(7), 999+r.Intn(7), 999+r.Intn(7), 999+r.Intn(7), -1, -2, -3)
	at := max(0, tick-r.Intn(20))
	b := append(f.bytes(), make([]byte, r.Intn(3))...)
	a := n.Step(model.Call{Out: out, Frame: b, Tick: at, Port: port})
	want, e := p.step(f, out, at, port)
	k.add(out, e)
	if a.Err != e || e != api.OK && len(a.Frame) != 0 || e == api.OK && !bytes.Equal(a.Frame, want.bytes()) {
		t.Fatalf("out %v, %+v, at %d, port %d: error %d, %x, not %d, %+v", out, f, at, port, a.Err, a.Frame, e, want)
	}
	if out && e == api.OK && !f.isError {
		wantBack(t, n, f, a.Frame, choose(r, uint32(far), midway, host))
	}
}

func oneExpire(t *testing.T, r *rand.Rand, n *model.Nat, p *plainNat, tick int, k *counts) {
	t.Helper()
	proto, port := choose(r, 1, 6, 17), 999+r.Intn(7)
	want := p.expire(proto, port, tick)
	if want {
		k.ended++
	}
	if n.Expire(proto, port, tick) != want {
		t.Fatalf("Expire of %d, %d at %d isn't %v", proto, port, tick, want)
	}
}

// TestWhateverComes holds the translator against the plain one, by random frames of few flows to few ports.
func TestWhateverComes(t *testing.T) {
	r := rand.New(rand.NewSource(16))
	k := &counts{errs: map[[2]int]int{}}
	for range 60 {
		c := config()
		c.Hi = 1000 + r.Intn(5)
		n, p, tick := newNat(t, c), &plainNat{c: c}, 0
		for range 400 {
			if r.Intn(4) == 0 {
				tick += choose(r, 0, 1, 10, 60, 240)
			}
			if r.Intn(3) == 0 {
				oneExpire(t, r, n, p, tick, k)
			} else {
				oneStep(t, r, n, p, tick, k)
			}
			if r.Intn(10) == 0 {
				n = n.Copy()
			}
			wantOneEach(t, n.Bindings())
			wantBindings(t, n, p.bindings()...)
			if t.Failed() {
				return
			}
		}
	}
	for _, x := range [][2]int{{0, 0}, {0, int(api.ErrNone)}, {1, 0}, {1, int(api.ErrNone)}, {1, int(api.ErrNoPort)}, {1, int(api.ErrFull)}, {1, int(api.ErrArg)}} {
		if k.errs[x] < 100 {
			t.Errorf("hardly ever: %v (%v)", x, k.errs)
		}
	}
	if k.ended < 100 {
		t.Error("hardly any came to their end:", k.ended)
	}
}

// TestAllBytesAreAnswered has frames that were changed here and there, and any bytes: what can't be got changes nothing.
func TestAllBytesAreAnswered(t *testing.T) {
	r := rand.New(rand.NewSource(17))
	n := newNat(t, config())
	for range 60000 {
		out := r.Intn(2) == 0
		b := someFrame(r, out).bytes()
		for range r.Intn(3) {
			b[r.Intn(len(b))] = byte(r.Uint32())
		}
		if r.Intn(2) == 0 {
			b = resumHead(b)
		}
		if r.Intn(5) == 0 {
			b = b[:r.Intn(len(b)+1)]
		}
		x := model.Call{Out: out, Frame: b, Tick: int(r.Uint32()), Port: 990 + r.Intn(30)}
		if _, e := model.Whose(config(), out, b); e != api.OK {
			refuse(t, n, x, e)
		} else if a := n.Step(x); (a.Err == api.OK) != (len(a.Frame) > 0) {
			t.Errorf("%x: %+v", b, a)
		}
		wantOneEach(t, n.Bindings())
		if t.Failed() {
			return
		}
	}
}
