// Package head is layer 2: heads of packets of IP version 4 (RFC 791): see shared/doc/02-head.md.
package head

import (
	"fanlight/api"
	"fanlight/sum"
	"fanlight/wire"
)

// Head is one: its length in bytes, the packet's, how long it may live, its protocol, from whom, to whom.
type Head struct {
	Size, Len int
	Ttl       int
	Proto     int
	Src, Dst  uint32
}

const (
	plainSize = 20    // a head without options, which is the shortest
	mostLen   = 65535 // what a packet's length can tell
	dontCut   = 0x4000
	pieceBits = 0x3FFF // more pieces follow; how far from the begin this one is
)

// Where a head's fields begin.
const (
	atLen   = 2
	atPiece = 6
	atTtl   = 8
	atProto = 9
	atSum   = 10
	atSrc   = 12
	atDst   = 16
)

// Get is a whole frame's head.
func Get(b []byte) (Head, api.Errno) {
	h, e := read(b, api.MaxFrame)
	switch {
	case e != api.OK:
		return Head{}, e
	case len(b) < h.Len:
		return Head{}, api.ErrShort
	case sum.Of(b[:h.Size]) != 0:
		return Head{}, api.ErrSum
	case isPiece(b):
		return Head{}, api.ErrFragment
	}
	return h, api.OK
}

// Part is the head of a packet's begin, as it stands in an error: there the packet is cut, and its sum may have been left as it was on the way.
func Part(b []byte) (Head, api.Errno) {
	h, e := read(b, mostLen)
	switch {
	case e != api.OK:
		return Head{}, e
	case isPiece(b):
		return Head{}, api.ErrFragment
	}
	return h, api.OK
}

// Put is a frame: a plain head, and b behind it.
func Put(h Head, b []byte) ([]byte, api.Errno) {
	if !isByte(h.Ttl) || !isByte(h.Proto) || len(b) > api.MaxFrame-plainSize {
		return nil, api.ErrArg
	}
	f := make([]byte, plainSize+len(b))
	f[0] = 4<<4 | plainSize/4
	wire.Put16(f, atLen, uint16(len(f)))
	wire.Put16(f, atPiece, dontCut)
	f[atTtl] = byte(h.Ttl)
	f[atProto] = byte(h.Proto)
	wire.Put32(f, atSrc, h.Src)
	wire.Put32(f, atDst, h.Dst)
	wire.Put16(f, atSum, sum.Of(f[:plainSize]))
	copy(f[plainSize:], b)
	return f, api.OK
}

// read is the head that b begins with, of a packet of at most so many bytes, if the head itself is there.
func read(b []byte, most int) (Head, api.Errno) {
	if len(b) < plainSize {
		return Head{}, api.ErrShort
	}
	h := fields(b)
	switch {
	case b[0]>>4 != 4:
		return Head{}, api.ErrForm
	case h.Size < plainSize:
		return Head{}, api.ErrForm
	case len(b) < h.Size:
		return Head{}, api.ErrShort
	case h.Len < h.Size || h.Len > most:
		return Head{}, api.ErrForm
	}
	return h, api.OK
}

func fields(b []byte) Head {
	return Head{
		Size:  int(b[0]&15) * 4,
		Len:   int(wire.Get16(b, atLen)),
		Ttl:   int(b[atTtl]),
		Proto: int(b[atProto]),
		Src:   wire.Get32(b, atSrc),
		Dst:   wire.Get32(b, atDst),
	}
}

func isPiece(b []byte) bool { return wire.Get16(b, atPiece)&pieceBits != 0 }

func isByte(n int) bool { return n >= 0 && n <= 255 }
