package sample_test

import (
	"testing"

	"fanlight/api"
	"fanlight/head"
	"fanlight/part"
	"fanlight/sample"
)

const src, dst = 0x0A000001, 0x08080808

func get(t *testing.T, f []byte, proto int) part.Part {
	t.Helper()
	h, e := head.Get(f)
	if e != api.OK || h.Proto != proto || h.Src != src || h.Dst != dst {
		t.Fatalf("%x: %+v %d", f, h, e)
	}
	p, e := part.Get(h, f)
	if e != api.OK {
		t.Fatalf("%x: %d", f, e)
	}
	return p
}

func TestWhatIsLaidIsGotAgain(t *testing.T) {
	if p := get(t, sample.Udp(src, dst, 5, 53), api.Udp); p.SrcPort != 5 || p.DstPort != 53 {
		t.Errorf("%+v", p)
	}
	if p := get(t, sample.Tcp(src, dst, 5, 80, 18), api.Tcp); p.SrcPort != 5 || p.DstPort != 80 || p.Flags != 18 {
		t.Errorf("%+v", p)
	}
	if p := get(t, sample.Echo(false, src, dst, 7), api.Icmp); p.SrcPort != 7 || p.Kind != 8 || p.Error {
		t.Errorf("%+v", p)
	}
	if p := get(t, sample.Echo(true, src, dst, 7), api.Icmp); p.SrcPort != 7 || p.Kind != 0 || p.Error {
		t.Errorf("%+v", p)
	}
	p := get(t, sample.Fault(src, dst, sample.Udp(dst, src, 53, 5)), api.Icmp)
	if !p.Error || p.Inner.Src != dst || p.Inner.Proto != api.Udp || p.SrcPort != 53 || p.DstPort != 5 {
		t.Errorf("%+v", p)
	}
}

func TestWhatCantBeLaid(t *testing.T) {
	for _, f := range [][]byte{sample.Lay(256, src, dst, nil), sample.Lay(-1, src, dst, nil), sample.Lay(17, src, dst, make([]byte, api.MaxFrame))} {
		if len(f) > 0 {
			t.Errorf("%x", f)
		}
	}
}

// TestSpoiled: each is refused just for the reason that is told of it, and there is one for each reason.
func TestSpoiled(t *testing.T) {
	reasons := map[api.Errno]int{}
	for _, s := range sample.Spoiled(src, dst) {
		h, e := head.Get(s.Frame)
		if e == api.OK {
			_, e = part.Get(h, s.Frame)
		}
		if e != s.Why {
			t.Errorf("%x: %d, not %d", s.Frame, e, s.Why)
		}
		reasons[e]++
	}
	for _, e := range []api.Errno{api.ErrShort, api.ErrForm, api.ErrSum, api.ErrFragment, api.ErrProto} {
		if reasons[e] == 0 {
			t.Errorf("none is refused by %d", e)
		}
	}
}
