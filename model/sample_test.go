package model_test

import (
	"bytes"
	"slices"
	"testing"

	"fanlight/api"
	"fanlight/head"
	"fanlight/model"
	"fanlight/part"
	"fanlight/plan"
	"fanlight/sum"
)

const (
	outer   = 0xC0000201
	host    = 0x0A000001
	another = 0x0A000002
	far     = 0x08080808
	farther = 0x09090909
	midway  = 0x05060708 // who tells an error, outside
	gate    = 0x0A0000FE // and inside
	maxTick = 1<<32 - 1
)

const fin, syn, rst, psh, ack = 1, 2, 4, 8, 16

func config() plan.Config {
	return plan.Config{Workers: 1, Outer: outer, Lo: 1000, Hi: 1009, Buckets: 4, Ring: 4}
}

// packet is what a frame is made of: so what is to be told of it is known without getting it.
type packet struct {
	proto    int
	src, dst uint32
	from, to uint16 // of an echo its number, both
	flags    int
	reply    bool
}

func (p packet) carried() []byte {
	switch p.proto {
	case api.Udp:
		return part.Udp(p.src, p.dst, p.from, p.to, []byte("hi"))
	case api.Tcp:
		return part.Tcp(p.src, p.dst, p.from, p.to, p.flags, []byte("hello"))
	}
	return part.Echo(p.reply, p.from, []byte("ping"))
}

func lay(proto int, src, dst uint32, carried []byte) []byte {
	f, e := head.Put(head.Head{Ttl: 9, Proto: proto, Src: src, Dst: dst}, carried)
	if e != api.OK {
		panic(e)
	}
	return f
}

func (p packet) bytes() []byte { return lay(p.proto, p.src, p.dst, p.carried()) }

// sentFrom is p with another source, sentTo with another target.
func (p packet) sentFrom(addr uint32, port uint16) packet {
	p.src, p.from = addr, port
	if p.proto == api.Icmp {
		p.to = port
	}
	return p
}

func (p packet) sentTo(addr uint32, port uint16) packet {
	p.dst, p.to = addr, port
	if p.proto == api.Icmp {
		p.from = port
	}
	return p
}

// frame is a packet, or an error about it.
type frame struct {
	packet
	isError bool
	teller  uint32 // an error's own source
	told    uint32 // and target
}

func (f frame) bytes() []byte {
	if !f.isError {
		return f.packet.bytes()
	}
	return lay(api.Icmp, f.teller, f.told, part.Fault(3, 1, f.packet.bytes()))
}

// goneOut is the frame as it is outside, comeIn as it is inside.
func (f frame) goneOut(addr uint32, port uint16) frame {
	if f.isError {
		f.teller = addr
		f.packet = f.packet.sentTo(addr, port)
		return f
	}
	f.packet = f.packet.sentFrom(addr, port)
	return f
}

func (f frame) comeIn(addr uint32, port uint16) frame {
	if f.isError {
		f.told = addr
		f.packet = f.packet.sentFrom(addr, port)
		return f
	}
	f.packet = f.packet.sentTo(addr, port)
	return f
}

// flow is of whom it is.
func (f frame) flow(out bool) api.Flow {
	if out != f.isError {
		return api.Flow{Proto: f.proto, Addr: f.src, Port: f.from}
	}
	return api.Flow{Proto: f.proto, Addr: f.dst, Port: f.to}
}

func plain(p packet) frame { return frame{packet: p} }

func udp(src, dst uint32, from, to uint16) frame {
	return plain(packet{proto: api.Udp, src: src, dst: dst, from: from, to: to})
}

func tcp(src, dst uint32, from, to uint16, flags int) frame {
	return plain(packet{proto: api.Tcp, src: src, dst: dst, from: from, to: to, flags: flags})
}

func echo(reply bool, src, dst uint32, id uint16) frame {
	return plain(packet{proto: api.Icmp, src: src, dst: dst, from: id, to: id, reply: reply})
}

func fault(teller, told uint32, about frame) frame {
	return frame{packet: about.packet, isError: true, teller: teller, told: told}
}

func resumHead(b []byte) []byte {
	size := min(int(b[0]&15)*4, len(b))
	b[10], b[11] = 0, 0
	s := sum.Of(b[:size])
	b[10], b[11] = byte(s>>8), byte(s)
	return b
}

func newNat(t *testing.T, c plan.Config) *model.Nat {
	t.Helper()
	n, e := model.New(c)
	if e != api.OK || n == nil {
		t.Fatalf("New of %+v: %d", c, e)
	}
	return n
}

// send lets a frame go out, and wants it to go by a port.
func send(t *testing.T, n *model.Nat, f frame, tick, asked, port int) {
	t.Helper()
	a := n.Step(model.Call{Out: true, Frame: f.bytes(), Tick: tick, Port: asked})
	if want := f.goneOut(outer, uint16(port)).bytes(); a.Err != api.OK || !bytes.Equal(a.Frame, want) {
		t.Errorf("out %+v: error %d, %x, not %x", f, a.Err, a.Frame, want)
	}
}

// bring lets a frame come in, and wants it to go to a flow.
func bring(t *testing.T, n *model.Nat, f frame, tick int, addr uint32, port uint16) {
	t.Helper()
	a := n.Step(model.Call{Frame: f.bytes(), Tick: tick})
	if want := f.comeIn(addr, port).bytes(); a.Err != api.OK || !bytes.Equal(a.Frame, want) {
		t.Errorf("in %+v: error %d, %x, not %x", f, a.Err, a.Frame, want)
	}
}

// refuse wants a frame to be refused, and nothing to be changed by it.
func refuse(t *testing.T, n *model.Nat, x model.Call, want api.Errno) {
	t.Helper()
	was := n.Bindings()
	if a := n.Step(x); a.Err != want || len(a.Frame) != 0 {
		t.Errorf("%+v: error %d, %x, not %d", x, a.Err, a.Frame, want)
	}
	wantBindings(t, n, was...)
}

func wantBindings(t *testing.T, n *model.Nat, want ...model.Binding) {
	t.Helper()
	if l := n.Bindings(); !slices.Equal(l, want) {
		t.Errorf("%+v, not %+v", l, want)
	}
}

func bound(proto int, addr uint32, from uint16, port, state, seen int) model.Binding {
	return model.Binding{Flow: api.Flow{Proto: proto, Addr: addr, Port: from}, Port: port, Track: state, Seen: seen}
}
