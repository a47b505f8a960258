// Package sum is layer 1: checksums (RFC 1071), and how they change (RFC 1624): see shared/doc/01-sum.md.
package sum

// Of is the checksum of b.
func Of(b []byte) uint16 { return Done(More(0, b)) }

// More is the sum n, gone on by b.
func More(n uint32, b []byte) uint32 {
	// No list is so long that its carries leave 64 bits: so they are folded once, at the end.
	total := uint64(n)
	for i := 0; i+1 < len(b); i += 2 {
		total += uint64(b[i])<<8 | uint64(b[i+1])
	}
	if len(b)%2 == 1 {
		total += uint64(b[len(b)-1]) << 8
	}
	return fold(total)
}

// Done is the checksum to which the sum n comes.
func Done(n uint32) uint16 { return ^uint16(fold(uint64(n))) }

// Fix is the checksum when 16 bits that were old are now.
func Fix(sum, old, now uint16) uint16 {
	return Done(uint32(^sum) + uint32(^old) + uint32(now))
}

// FixWide is the checksum when 32 bits that were old are now.
func FixWide(sum uint16, old, now uint32) uint16 {
	high := Fix(sum, uint16(old>>16), uint16(now>>16))
	return Fix(high, uint16(old), uint16(now))
}

func fold(n uint64) uint32 {
	for n > 0xFFFF {
		n = n>>16 + n&0xFFFF
	}
	return uint32(n)
}
