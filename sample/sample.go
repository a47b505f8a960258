// Package sample lays frames for the tests of the layers above rewrite: what they carry is the same each time, but for addresses, ports and flags. Some of them are spoilt.
package sample

import (
	"fanlight/api"
	"fanlight/head"
	"fanlight/part"
)

const ttl = 9

// Of an error that is told: its type, and its code.
const (
	unreachable = 3
	noHost      = 1
)

// Lay is a frame that carries some bytes; none: it can't be laid.
func Lay(proto int, src, dst uint32, carried []byte) []byte {
	f, e := head.Put(head.Head{Ttl: ttl, Proto: proto, Src: src, Dst: dst}, carried)
	if e != api.OK {
		return nil
	}
	return f
}

// Udp is a datagram.
func Udp(src, dst uint32, from, to uint16) []byte {
	return Lay(api.Udp, src, dst, part.Udp(src, dst, from, to, []byte("hi")))
}

// Tcp is a segment.
func Tcp(src, dst uint32, from, to uint16, flags int) []byte {
	return Lay(api.Tcp, src, dst, part.Tcp(src, dst, from, to, flags, []byte("hello")))
}

// Echo is one of a number, or a reply to one.
func Echo(reply bool, src, dst uint32, id uint16) []byte {
	return Lay(api.Icmp, src, dst, part.Echo(reply, id, []byte("ping")))
}

// Fault is an ICMP error about a frame, that somebody tells somebody.
func Fault(teller, told uint32, about []byte) []byte {
	return Lay(api.Icmp, teller, told, part.Fault(unreachable, noHost, about))
}
