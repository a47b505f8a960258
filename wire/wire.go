// Package wire reads and writes numbers as they stand in packets: the highest byte first. Its callers see to it that the bytes are there.
package wire

// Get16 is the number of 16 bits that begins at b[at].
func Get16(b []byte, at int) uint16 {
	return uint16(b[at])<<8 | uint16(b[at+1])
}

// Get32 is the number of 32 bits that begins at b[at].
func Get32(b []byte, at int) uint32 {
	return uint32(Get16(b, at))<<16 | uint32(Get16(b, at+2))
}

// Put16 lays n at b[at].
func Put16(b []byte, at int, n uint16) {
	b[at] = byte(n >> 8)
	b[at+1] = byte(n)
}

// Put32 lays n at b[at].
func Put32(b []byte, at int, n uint32) {
	Put16(b, at, uint16(n>>16))
	Put16(b, at+2, uint16(n))
}
