package part

import (
	"fanlight/api"
	"fanlight/sum"
	"fanlight/wire"
)

// mostLaid is how many of the bytes that are handed in are used.
const mostLaid = 1400

// plainWindow is the window that a laid TCP segment tells.
const plainWindow = 0x2000

// Udp is a datagram, with its sum.
func Udp(src, dst uint32, from, to uint16, b []byte) []byte {
	c := behind(udpSize, b)
	layPorts(c, from, to)
	wire.Put16(c, atUdpLen, uint16(len(c)))
	wire.Put16(c, atUdpSum, udpSum(src, dst, c))
	return c
}

// Tcp is a segment, with its sum.
func Tcp(src, dst uint32, from, to uint16, flags int, b []byte) []byte {
	c := behind(tcpSize, b)
	layPorts(c, from, to)
	c[atTcpSize] = tcpSize / 4 << 4
	c[atTcpFlags] = byte(flags)
	wire.Put16(c, atWindow, plainWindow)
	wire.Put16(c, atTcpSum, sumFor(src, dst, api.Tcp, c))
	return c
}

// Echo is an echo, or the reply to one, with its sum.
func Echo(reply bool, id uint16, b []byte) []byte {
	c := behind(icmpSize, b)
	c[atKind] = echoRequest
	if reply {
		c[atKind] = echoReply
	}
	wire.Put16(c, atNumber, id)
	wire.Put16(c, atIcmpSum, sum.Of(c))
	return c
}

// Fault is an ICMP error about a packet, with its sum.
func Fault(kind, code int, about []byte) []byte {
	c := behind(icmpSize, about)
	c[atKind] = byte(kind)
	c[atCode] = byte(code)
	wire.Put16(c, atIcmpSum, sum.Of(c))
	return c
}

// behind is so many noughts, and what is used of b behind them.
func behind(size int, b []byte) []byte {
	used := min(len(b), mostLaid)
	c := make([]byte, size+used)
	copy(c[size:], b[:used])
	return c
}

func layPorts(c []byte, from, to uint16) {
	wire.Put16(c, atSrcPort, from)
	wire.Put16(c, atDstPort, to)
}

// udpSum is never 0: there 0 says that there is no sum.
func udpSum(src, dst uint32, c []byte) uint16 {
	s := sumFor(src, dst, api.Udp, c)
	if s == 0 {
		return 0xFFFF
	}
	return s
}
