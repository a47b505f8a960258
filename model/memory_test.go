package model_test

import (
	"bytes"
	"testing"

	"fanlight/api"
	"fanlight/model"
)

// spare is f's bytes, with room behind them that isn't theirs.
func spare(f frame) (all, b []byte) {
	all = append(f.bytes(), bytes.Repeat([]byte{0xCD}, 40)...)
	return all, all[:len(all)-40]
}

// TestNothingHandedInIsChangedOrKept has the bytes overwritten behind each call, and the answer's bytes, too.
func TestNothingHandedInIsChangedOrKept(t *testing.T) {
	n := newNat(t, config())
	for _, x := range []struct {
		out bool
		f   frame
	}{
		{true, udp(host, far, 5, 53)}, {true, udp(host, far, 5, 53)}, {false, udp(far, outer, 53, 1000)},
		{true, tcp(host, far, 5, 53, syn)}, {false, tcp(far, outer, 53, 1000, ack)},
		{true, echo(false, host, far, 5)}, {false, echo(true, far, outer, 1000)},
		{true, fault(host, far, udp(far, host, 53, 5))}, {false, fault(midway, outer, udp(outer, far, 1000, 53))},
	} {
		all, b := spare(x.f)
		was := bytes.Clone(all)
		model.Whose(config(), x.out, b)
		model.Begins(x.out, b)
		a := n.Step(model.Call{Out: x.out, Frame: b, Tick: 1, Port: 1000})
		if a.Err != api.OK || !bytes.Equal(all, was) {
			t.Fatalf("%+v: error %d, %x, not %x", x.f, a.Err, all, was)
		}
		told, stood := bytes.Clone(a.Frame), n.Bindings()
		clear(all)
		if !bytes.Equal(a.Frame, told) {
			t.Errorf("%+v: the answer hangs on what was handed in", x.f)
		}
		wantBindings(t, n, stood...)
		again := n.Copy().Step(model.Call{Out: x.out, Frame: was[:len(b)], Tick: 1, Port: 1000})
		for i := range a.Frame[:cap(a.Frame)] {
			a.Frame[:cap(a.Frame)][i] = 0x11
		}
		if bytes.IndexByte(all, 0x11) >= 0 || !bytes.Equal(again.Frame, told) {
			t.Errorf("%+v: the answer shares memory", x.f)
		}
		wantBindings(t, n, stood...)
	}
}

func TestRefusedFramesArentChanged(t *testing.T) {
	n := newNat(t, config())
	for _, f := range []frame{udp(host, far, 5, 53), tcp(host, far, 5, 53, ack), udp(far, outer, 53, 1000)} {
		for _, out := range []bool{true, false} {
			all, b := spare(f)
			was := bytes.Clone(all)
			if a := n.Step(model.Call{Out: out, Frame: b, Port: -1}); a.Err == api.OK || len(a.Frame) != 0 || !bytes.Equal(all, was) {
				t.Errorf("out %v, %+v: %+v", out, f, a)
			}
		}
	}
}

func TestListsAreNew(t *testing.T) {
	n := newNat(t, config())
	send(t, n, udp(host, far, 5, 53), 1, 1000, 1000)
	send(t, n, udp(host, far, 6, 53), 1, 1001, 1001)
	first, second := n.Bindings(), n.Bindings()
	clear(first)
	first = append(first[:1], model.Binding{Port: 9})
	if second[0].Port != 1000 || second[1].Port != 1001 {
		t.Errorf("two lists share memory: %+v, %+v", first, second)
	}
	wantBindings(t, n, second...)
	bring(t, n, udp(far, outer, 53, 1000), 1, host, 5)
}
