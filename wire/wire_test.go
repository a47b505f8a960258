package wire_test

import (
	"bytes"
	"testing"

	"fanlight/wire"
)

func TestHighestByteStandsFirst(t *testing.T) {
	b := make([]byte, 8)
	wire.Put16(b, 1, 0x1234)
	wire.Put32(b, 3, 0x89ABCDEF)
	if !bytes.Equal(b, []byte{0, 0x12, 0x34, 0x89, 0xAB, 0xCD, 0xEF, 0}) {
		t.Errorf("laid %x", b)
	}
	if n := wire.Get16(b, 1); n != 0x1234 {
		t.Errorf("got %x", n)
	}
	if n := wire.Get32(b, 3); n != 0x89ABCDEF {
		t.Errorf("got %x", n)
	}
}
