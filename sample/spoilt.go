package sample

import (
	"bytes"

	"fanlight/api"
	"fanlight/part"
	"fanlight/sum"
	"fanlight/wire"
)

// Spoilt is a frame that can't be got, and why.
type Spoilt struct {
	Why   api.Errno
	Frame []byte
}

// Where bytes of a head are, and how many it has.
const (
	atVersion  = 0
	atFragment = 6
	atHeadSum  = 10
	headSize   = 20
)

// unknown is a protocol that none of the layers knows.
const unknown = 47

// Spoiled is frames from src to dst that can't be got, for each of the reasons that there are.
func Spoiled(src, dst uint32) []Spoilt {
	good := Udp(src, dst, 5, 1000)
	inner := Lay(unknown, dst, src, make([]byte, 8))
	fault := func(kind, code int, about []byte) []byte {
		return Lay(api.Icmp, src, dst, part.Fault(kind, code, about))
	}
	return []Spoilt{
		{api.ErrShort, nil},
		{api.ErrShort, bytes.Clone(good[:headSize-1])},
		{api.ErrShort, bytes.Clone(good[:len(good)-1])},
		{api.ErrForm, resumed(good, atVersion, 0x65)},
		{api.ErrForm, resumed(good, atVersion, 0x44)},
		{api.ErrSum, changed(good, atHeadSum, good[atHeadSum]^1)},
		{api.ErrFragment, resumed(good, atFragment, 0x20)},
		{api.ErrShort, Lay(api.Udp, src, dst, make([]byte, 7))},
		{api.ErrForm, Lay(api.Udp, src, dst, make([]byte, 8))},
		{api.ErrSum, changed(good, len(good)-1, good[len(good)-1]^1)},
		{api.ErrShort, Lay(api.Tcp, src, dst, make([]byte, 19))},
		{api.ErrProto, Lay(unknown, src, dst, make([]byte, 20))},
		{api.ErrProto, fault(5, 0, nil)},
		{api.ErrForm, fault(8, 1, nil)},
		{api.ErrShort, fault(unreachable, 0, nil)},
		{api.ErrForm, fault(unreachable, 0, inner[:headSize+7])},
		{api.ErrProto, fault(unreachable, 0, inner)},
	}
}

// changed is a frame like b, with another byte.
func changed(b []byte, at int, now byte) []byte {
	c := bytes.Clone(b)
	c[at] = now
	return c
}

// resumed is one with another byte of its head, whose sum is right.
func resumed(b []byte, at int, now byte) []byte {
	c := changed(b, at, now)
	wire.Put16(c, atHeadSum, 0)
	wire.Put16(c, atHeadSum, sum.Of(c[:headSize]))
	return c
}
