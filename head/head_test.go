package head_test

import (
	"bytes"
	"math"
	"math/rand"
	"testing"

	"fanlight/api"
	"fanlight/head"
	"fanlight/sum"
)

func put16(b []byte, at int, n uint16) { b[at], b[at+1] = byte(n>>8), byte(n) }

// resum makes the head's sum right again, as long as the head says that it is.
func resum(b []byte) {
	size := min(int(b[0]&15)*4, len(b))
	put16(b, 10, 0)
	put16(b, 10, sum.Of(b[:size]))
}

// sample is a frame whose head has size bytes, with carried bytes behind it.
func sample(size, carried int) []byte {
	b := make([]byte, size+carried)
	for i := range b {
		b[i] = byte(i * 7)
	}
	b[0] = byte(0x40 | size/4)
	put16(b, 2, uint16(len(b)))
	put16(b, 6, 0x4000)
	b[8], b[9] = 33, 17
	copy(b[12:], []byte{10, 0, 0, 1, 192, 0, 2, 255})
	resum(b)
	return b
}

func wantError(t *testing.T, what string, h head.Head, e, want api.Errno) {
	t.Helper()
	if e != want {
		t.Errorf("%s: error %d, not %d", what, e, want)
	}
	if e != api.OK && h != (head.Head{}) {
		t.Errorf("%s: beside an error %+v", what, h)
	}
}

func TestPutLaysAPlainHead(t *testing.T) {
	plain := "\x45\x00\x00\x14\x00\x00\x40\x00\x40\x11\x26\xD7\x0A\x00\x00\x01\x0A\x00\x00\x02"
	for _, h := range []head.Head{
		{Ttl: 64, Proto: 17, Src: 0x0A000001, Dst: 0x0A000002},
		{Size: 60, Len: -3, Ttl: 64, Proto: 17, Src: 0x0A000001, Dst: 0x0A000002},
	} {
		b, e := head.Put(h, nil)
		if e != api.OK || string(b) != plain {
			t.Errorf("%+v: %x %d", h, b, e)
		}
	}
	b, e := head.Put(head.Head{Ttl: 255, Proto: 1, Src: 0xFFFFFFFE, Dst: 0x01020304}, []byte("xyz"))
	want := "\x45\x00\x00\x17\x00\x00\x40\x00\xFF\x01\x77\xE1\xFF\xFF\xFF\xFE\x01\x02\x03\x04xyz"
	if e != api.OK || string(b) != want {
		t.Errorf("%x %d", b, e)
	}
}

func TestPutRefuses(t *testing.T) {
	for _, c := range []struct {
		h    head.Head
		b    int
		want api.Errno
	}{
		{head.Head{Ttl: 0, Proto: 0}, 0, api.OK},
		{head.Head{Ttl: 255, Proto: 255}, 1480, api.OK},
		{head.Head{Ttl: -1}, 0, api.ErrArg},
		{head.Head{Ttl: 256}, 0, api.ErrArg},
		{head.Head{Proto: -1}, 0, api.ErrArg},
		{head.Head{Proto: 256}, 0, api.ErrArg},
		{head.Head{Ttl: math.MinInt, Proto: math.MaxInt}, 0, api.ErrArg},
		{head.Head{}, 1481, api.ErrArg},
		{head.Head{}, 70000, api.ErrArg},
	} {
		b, e := head.Put(c.h, make([]byte, c.b))
		if e != c.want {
			t.Errorf("%+v, %d bytes: error %d, not %d", c.h, c.b, e, c.want)
		}
		if e != api.OK && len(b) != 0 {
			t.Errorf("%+v: beside an error %d bytes", c.h, len(b))
		}
		if e == api.OK && len(b) != 20+c.b {
			t.Errorf("%+v: %d bytes", c.h, len(b))
		}
	}
}

func TestPutIsGotAgain(t *testing.T) {
	r := rand.New(rand.NewSource(1))
	for _, carried := range []int{0, 1, 2, 7, 8, 100, 1479, 1480} {
		for range 50 {
			h := head.Head{Ttl: r.Intn(256), Proto: r.Intn(256), Src: r.Uint32(), Dst: r.Uint32()}
			c := make([]byte, carried)
			r.Read(c)
			b, e := head.Put(h, c)
			if e != api.OK || !bytes.Equal(b[20:], c) {
				t.Fatalf("%+v: %d", h, e)
			}
			h.Size, h.Len = 20, 20+carried
			if got, e := head.Get(b); e != api.OK || got != h {
				t.Fatalf("Get %+v %d, not %+v", got, e, h)
			}
			if got, e := head.Part(b[:20]); e != api.OK || got != h {
				t.Fatalf("Part %+v %d, not %+v", got, e, h)
			}
		}
	}
}

func TestGetTellsTheFields(t *testing.T) {
	for size := 20; size <= 60; size += 4 {
		for _, carried := range []int{0, 1, 9, 1500 - size} {
			b := sample(size, carried)
			want := head.Head{Size: size, Len: size + carried, Ttl: 33, Proto: 17, Src: 0x0A000001, Dst: 0xC00002FF}
			got, e := head.Get(append(bytes.Clone(b), 1, 2, 3))
			if e != api.OK || got != want {
				t.Errorf("size %d: %+v %d", size, got, e)
			}
			got, e = head.Get(b)
			if e != api.OK || got != want {
				t.Errorf("size %d: %+v %d", size, got, e)
			}
		}
	}
}

// fault is one thing that is wrong with a frame; they stand in the order in which they are looked for.
type fault struct {
	what  string
	want  api.Errno
	spoil func(b []byte) []byte
}

func cutTo(n int) func([]byte) []byte {
	return func(b []byte) []byte { return b[:min(n, len(b))] }
}

var faults = []fault{
	{"fewer than 20 bytes", api.ErrShort, cutTo(19)},
	{"version 6", api.ErrForm, func(b []byte) []byte { b[0] = 0x60 | b[0]&15; return b }},
	{"a head of 16 bytes", api.ErrForm, func(b []byte) []byte { b[0] = b[0]&0xF0 | 4; return b }},
	{"a head that isn't there", api.ErrShort, cutTo(23)},
	{"a packet of 1501 bytes", api.ErrForm, func(b []byte) []byte { put16(b, 2, 1501); return b }},
	{"a packet that isn't there", api.ErrShort, cutTo(31)},
	{"a sum that isn't right", api.ErrSum, func(b []byte) []byte { b[11] ^= 1; return b }},
	{"a piece", api.ErrFragment, func(b []byte) []byte { b[6] |= 0x20; return b }},
}

// spoiled is a frame with those faults that bits chooses; the sum is right but for its own fault.
func spoiled(bits int) (b []byte, first int) {
	b, first = sample(24, 8), -1
	for i := len(faults) - 1; i >= 0; i-- {
		if bits>>i&1 == 0 {
			continue
		}
		first = i
		if i == 6 {
			continue
		}
		b = faults[i].spoil(b)
		if len(b) >= 20 {
			resum(b)
		}
	}
	if bits>>6&1 == 1 && len(b) >= 20 {
		b = faults[6].spoil(b)
	}
	return b, first
}

func TestGetTellsTheFirstFault(t *testing.T) {
	for bits := range 1 << len(faults) {
		b, first := spoiled(bits)
		want := api.OK
		if first >= 0 {
			want = faults[first].want
		}
		h, e := head.Get(b)
		if e != want || e != api.OK && h != (head.Head{}) {
			t.Errorf("faults %08b (%x): %+v %d, not %d", bits, b, h, e, want)
		}
	}
}

func TestGetAtTheEdges(t *testing.T) {
	for _, n := range []int{0, 1, 19} {
		h, e := head.Get(make([]byte, n))
		wantError(t, "few noughts", h, e, api.ErrShort)
	}
	h, e := head.Get(nil)
	wantError(t, "nil", h, e, api.ErrShort)
	for version := range 16 {
		b := sample(20, 0)
		b[0] = byte(version<<4 | 5)
		resum(b)
		want := api.ErrForm
		if version == 4 {
			want = api.OK
		}
		h, e := head.Get(b)
		wantError(t, "version", h, e, want)
	}
	for words := range 5 {
		b := sample(20, 0)
		b[0] = byte(4<<4 | words)
		resum(b)
		h, e := head.Get(b)
		wantError(t, "a short head", h, e, api.ErrForm)
	}
	long := append(sample(20, 0), make([]byte, 70000)...)
	for _, c := range []struct {
		length uint16
		want   api.Errno
	}{{0, api.ErrForm}, {19, api.ErrForm}, {20, api.OK}, {21, api.OK}, {1499, api.OK}, {1500, api.OK}, {1501, api.ErrForm}, {65535, api.ErrForm}} {
		put16(long, 2, c.length)
		resum(long)
		h, e := head.Get(long)
		wantError(t, "the packet's length", h, e, c.want)
		if e == api.OK && h.Len != int(c.length) {
			t.Errorf("Len %d, not %d", h.Len, c.length)
		}
	}
}

var pieces = []struct {
	bits uint16
	want api.Errno
}{
	{0, api.OK},
	{0x4000, api.OK},
	{0x8000, api.OK},
	{0xC000, api.OK},
	{0x2000, api.ErrFragment},
	{0x6000, api.ErrFragment},
	{0x0001, api.ErrFragment},
	{0x0100, api.ErrFragment},
	{0x1000, api.ErrFragment},
	{0x1FFF, api.ErrFragment},
	{0xFFFF, api.ErrFragment},
}

func TestPiecesAreRefused(t *testing.T) {
	for _, c := range pieces {
		b := sample(20, 8)
		put16(b, 6, c.bits)
		h, e := head.Part(b)
		wantError(t, "Part of a piece", h, e, c.want)
		resum(b)
		h, e = head.Get(b)
		wantError(t, "Get of a piece", h, e, c.want)
	}
}

func TestGetLooksAtTheWholeHeadsSum(t *testing.T) {
	for size := 20; size <= 60; size += 20 {
		good := sample(size, 4)
		for at := range len(good) {
			b := bytes.Clone(good)
			b[at] ^= 0x80
			_, e := head.Get(b)
			if at >= size && e != api.OK {
				t.Errorf("a byte behind the head, at %d: %d", at, e)
			}
			if at > 3 && at < size && e != api.ErrSum {
				t.Errorf("a byte of the head, at %d: %d", at, e)
			}
		}
	}
}

func TestPartTellsTheFirstFault(t *testing.T) {
	// a packet's greatest length, that it isn't there, and its sum are nothing to Part
	let := 1<<4 | 1<<5 | 1<<6
	for bits := range 1 << len(faults) {
		b, _ := spoiled(bits)
		want := api.OK
		for i := len(faults) - 1; i >= 0; i-- {
			if (bits&^let)>>i&1 == 1 {
				want = faults[i].want
			}
		}
		h, e := head.Part(b)
		if e != want || e != api.OK && h != (head.Head{}) {
			t.Errorf("faults %08b (%x): %+v %d, not %d", bits, b, h, e, want)
		}
	}
}

func TestPartAtTheEdges(t *testing.T) {
	for _, c := range []struct {
		length uint16
		want   api.Errno
	}{{0, api.ErrForm}, {59, api.ErrForm}, {60, api.OK}, {61, api.OK}, {1501, api.OK}, {65535, api.OK}} {
		b := sample(60, 0)
		put16(b, 2, c.length)
		h, e := head.Part(b)
		wantError(t, "the packet's length", h, e, c.want)
		whole := head.Head{Size: 60, Len: int(c.length), Ttl: 33, Proto: 17, Src: 0x0A000001, Dst: 0xC00002FF}
		if e == api.OK && h != whole {
			t.Errorf("%+v, not %+v", h, whole)
		}
		h, e = head.Part(b[:59])
		wantError(t, "a head that isn't there", h, e, api.ErrShort)
	}
	h, e := head.Part(nil)
	wantError(t, "nil", h, e, api.ErrShort)
}

func TestAllBytesAreAnswered(t *testing.T) {
	r := rand.New(rand.NewSource(2))
	for range 50000 {
		b := make([]byte, r.Intn(80))
		r.Read(b)
		if len(b) > 0 && r.Intn(4) > 0 {
			b[0] = 0x40 | b[0]&15
		}
		if len(b) > 3 && r.Intn(4) > 0 {
			b[2] = 0
		}
		if len(b) >= 20 && r.Intn(2) > 0 {
			resum(b)
		}
		h, e := head.Get(b)
		whole := h.Size >= 20 && h.Size <= 60 && h.Size <= h.Len && h.Len <= len(b)
		if e == api.OK && !whole || e != api.OK && h != (head.Head{}) {
			t.Fatalf("Get(%x): %+v %d", b, h, e)
		}
		h, e = head.Part(b)
		begun := h.Size >= 20 && h.Size <= 60 && h.Size <= h.Len && h.Size <= len(b)
		if e == api.OK && !begun || e != api.OK && h != (head.Head{}) {
			t.Fatalf("Part(%x): %+v %d", b, h, e)
		}
	}
}

func TestNothingHandedInIsChangedOrKept(t *testing.T) {
	all := append(sample(24, 8), 1, 2, 3, 4)
	was := bytes.Clone(all)
	head.Get(all[:32])
	head.Part(all[:26])
	b, e := head.Put(head.Head{Ttl: 1}, all[:32])
	if e != api.OK || !bytes.Equal(all, was) {
		t.Fatalf("%x %d", all, e)
	}
	laid := bytes.Clone(b)
	for i := range all {
		all[i] = 0xEE
	}
	if !bytes.Equal(b, laid) {
		t.Error("what was put hangs on what was handed in")
	}
	for i := range b {
		b[i] = 0x11
	}
	if bytes.IndexByte(all, 0x11) >= 0 {
		t.Error("what was handed in hangs on what was put")
	}
}
