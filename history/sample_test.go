package history_test

import (
	"bytes"
	"testing"

	"fanlight/api"
	"fanlight/history"
	"fanlight/model"
	"fanlight/sample"
)

const (
	outer   = 0xC0000201
	far     = 0x08080808
	maxTick = 1<<32 - 1
)

// Frames that went out from some port.
func udp(from uint16) []byte { return sample.Udp(outer, far, from, 53) }

func tcp(from uint16) []byte { return sample.Tcp(outer, far, from, 80, 2) }

func echo(reply bool, id uint16) []byte { return sample.Echo(reply, outer, far, id) }

func fault(about []byte) []byte { return sample.Fault(outer, far, about) }

// spoilt is b with one byte changed.
func spoilt(b []byte, at int) []byte {
	b = bytes.Clone(b)
	b[at] ^= 1
	return b
}

func sameEntry(a, b history.Entry) bool {
	return a.Begin == b.Begin && a.End == b.End && a.Ends == b.Ends && a.Proto == b.Proto && a.Port == b.Port &&
		a.Call.Out == b.Call.Out && a.Call.Tick == b.Call.Tick && a.Call.Port == b.Call.Port && a.Answer.Err == b.Answer.Err &&
		bytes.Equal(a.Call.Frame, b.Call.Frame) && bytes.Equal(a.Answer.Frame, b.Answer.Frame)
}

func wantAll(t *testing.T, h *history.History, now int, want ...history.Entry) {
	t.Helper()
	l := h.All()
	if h.Now() != now || len(l) != len(want) {
		t.Fatalf("at %d %+v, not at %d %+v", h.Now(), l, now, want)
	}
	for i, x := range l {
		if !sameEntry(x, want[i]) {
			t.Errorf("entry %d is %+v, not %+v", i, x, want[i])
		}
	}
}

func begin(t *testing.T, h *history.History, x model.Call, want int) {
	t.Helper()
	if i := h.Begin(x); i != want {
		t.Errorf("Begin is entry %d, not %d", i, want)
	}
}

func end(t *testing.T, h *history.History, i int, a model.Answer, want api.Errno) {
	t.Helper()
	if e := h.End(i, a); e != want {
		t.Errorf("End of %d: %d, not %d", i, e, want)
	}
}

func ended(t *testing.T, h *history.History, since, tick, proto, port, want int) {
	t.Helper()
	if i := h.Ended(since, tick, proto, port); i != want {
		t.Errorf("Ended since %d is entry %d, not %d", since, i, want)
	}
}
