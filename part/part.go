// Package part is layer 3: what packets carry (RFC 768, 793, 792): see shared/doc/03-part.md.
package part

import (
	"fanlight/api"
	"fanlight/head"
	"fanlight/sum"
	"fanlight/wire"
)

// Flags of TCP.
const (
	Fin = 1
	Syn = 2
	Rst = 4
	Ack = 16
)

// Types of ICMP that are known.
const (
	echoReply    = 0
	unreachable  = 3
	echoRequest  = 8
	timeExceeded = 11
	badParameter = 12
)

// The shortest own heads.
const (
	udpSize  = 8
	tcpSize  = 20
	icmpSize = 8
)

// Where fields begin.
const (
	atSrcPort  = 0
	atDstPort  = 2
	atUdpLen   = 4
	atUdpSum   = 6
	atTcpSize  = 12
	atTcpFlags = 13
	atWindow   = 14
	atTcpSum   = 16
	atKind     = 0
	atCode     = 1
	atIcmpSum  = 2
	atNumber   = 4
)

// innerLeast is how much of the packet that an error is about must be there behind its head: both ports, or an echo's number, are in it.
const innerLeast = 8

// Part is what one carries: its protocol, both ports (of an echo its number, as both), flags (TCP), type and code (ICMP); of an ICMP error the packet that it is about: its head, and where it begins.
type Part struct {
	Proto            int
	SrcPort, DstPort uint16
	Flags            int
	Kind, Code       int
	Error            bool
	Inner            head.Head
	At               int
	Bare             bool
}

// Get is what the packet b carries, whose head is h.
func Get(h head.Head, b []byte) (Part, api.Errno) {
	if h.Size < 20 || h.Size > 60 || h.Len < h.Size || h.Len > len(b) {
		return Part{}, api.ErrArg
	}
	carried := b[h.Size:h.Len]
	switch h.Proto {
	case api.Udp:
		return getUdp(h, carried)
	case api.Tcp:
		return getTcp(h, carried)
	case api.Icmp:
		return getIcmp(h, carried)
	}
	return Part{}, api.ErrProto
}

func getUdp(h head.Head, c []byte) (Part, api.Errno) {
	if len(c) < udpSize {
		return Part{}, api.ErrShort
	}
	if int(wire.Get16(c, atUdpLen)) != len(c) {
		return Part{}, api.ErrForm
	}
	p := withPorts(Part{Proto: api.Udp}, c)
	p.Bare = wire.Get16(c, atUdpSum) == 0
	if !p.Bare && sumFor(h.Src, h.Dst, api.Udp, c) != 0 {
		return Part{}, api.ErrSum
	}
	return p, api.OK
}

func getTcp(h head.Head, c []byte) (Part, api.Errno) {
	if len(c) < tcpSize {
		return Part{}, api.ErrShort
	}
	size := int(c[atTcpSize]>>4) * 4
	if size < tcpSize || size > len(c) {
		return Part{}, api.ErrForm
	}
	if sumFor(h.Src, h.Dst, api.Tcp, c) != 0 {
		return Part{}, api.ErrSum
	}
	return withPorts(Part{Proto: api.Tcp, Flags: int(c[atTcpFlags])}, c), api.OK
}

func getIcmp(h head.Head, c []byte) (Part, api.Errno) {
	if len(c) < icmpSize {
		return Part{}, api.ErrShort
	}
	if sum.Of(c) != 0 {
		return Part{}, api.ErrSum
	}
	p := Part{Proto: api.Icmp, Kind: int(c[atKind]), Code: int(c[atCode])}
	switch p.Kind {
	case echoReply, echoRequest:
		if p.Code != 0 {
			return Part{}, api.ErrForm
		}
		return withNumber(p, c), api.OK
	case unreachable, timeExceeded, badParameter:
		p.At = h.Size + icmpSize
		return getError(p, c[icmpSize:])
	}
	return Part{}, api.ErrProto
}

// getError is p, an ICMP error, with what is known of the packet that it is about.
func getError(p Part, about []byte) (Part, api.Errno) {
	inner, e := head.Part(about)
	if e != api.OK {
		return Part{}, e
	}
	if len(about)-inner.Size < innerLeast || inner.Len-inner.Size < innerLeast {
		return Part{}, api.ErrForm
	}
	p.Error = true
	p.Inner = inner
	c := about[inner.Size:]
	switch {
	case inner.Proto == api.Udp || inner.Proto == api.Tcp:
		return withPorts(p, c), api.OK
	case inner.Proto == api.Icmp && isEcho(c[atKind]):
		return withNumber(p, c), api.OK
	}
	return Part{}, api.ErrProto
}

func isEcho(kind byte) bool { return kind == echoReply || kind == echoRequest }

func withPorts(p Part, c []byte) Part {
	p.SrcPort = wire.Get16(c, atSrcPort)
	p.DstPort = wire.Get16(c, atDstPort)
	return p
}

func withNumber(p Part, c []byte) Part {
	p.SrcPort = wire.Get16(c, atNumber)
	p.DstPort = p.SrcPort
	return p
}

// sumFor is the sum of UDP and TCP. The numbers that stand ahead of c in it are added as they are: no bytes need be laid for them.
func sumFor(src, dst uint32, proto int, c []byte) uint16 {
	ahead := src>>16 + src&0xFFFF + dst>>16 + dst&0xFFFF
	ahead += uint32(proto) + uint32(uint16(len(c)))
	return sum.Done(sum.More(ahead, c))
}
