package nat_test

import (
	"bytes"
	"math/rand"
	"sync"
	"testing"

	"fanlight/api"
	"fanlight/model"
	"fanlight/nat"
	"fanlight/plan"
)

// allAtOnce lets each worker do its own deeds, all at one time: what each frame was told.
func allAtOnce(n *nat.Nat, deeds [][]deed) [][]model.Answer {
	told := make([][]model.Answer, len(deeds))
	var all sync.WaitGroup
	for w, l := range deeds {
		all.Add(1)
		go func() {
			defer all.Done()
			for _, d := range l {
				begin(n, w, d)
				for !n.Do(w) {
				}
				a, _ := n.Told(w)
				told[w] = append(told[w], a)
			}
		}()
	}
	all.Wait()
	return told
}

// TestFlowsHaveOnePortAtOnce: whoever brings a flow's frames, they all go out from one port, and no two flows from one.
func TestFlowsHaveOnePortAtOnce(t *testing.T) {
	t.Parallel()
	rnd := rand.New(rand.NewSource(162))
	for range 40 {
		c := config(2+rnd.Intn(7), 400, 256)
		n := newNat(t, c)
		deeds, flows := make([][]deed, c.Workers), make([][]uint16, c.Workers)
		for w := range deeds {
			for range 400 {
				from := uint16(rnd.Intn(200))
				deeds[w], flows[w] = append(deeds[w], sent(from, rnd.Intn(100))), append(flows[w], from)
			}
		}
		portOfFlow, flowOfPort := map[uint16]int{}, map[int]uint16{}
		for w, l := range allAtOnce(n, deeds) {
			for k, a := range l {
				if a.Err != api.OK {
					t.Fatalf("%+v", a)
				}
				port, flow := portOf(t, a.Frame), flows[w][k]
				was, seen := portOfFlow[flow]
				other, taken := flowOfPort[port]
				if seen && was != port || taken && other != flow {
					t.Fatalf("flow %d goes out from %d and %d; port %d is flow %d's and %d's", flow, was, port, port, other, flow)
				}
				portOfFlow[flow], flowOfPort[port] = port, flow
			}
		}
		if len(n.Bindings()) != len(portOfFlow) {
			t.Fatalf("%d bindings of %d flows", len(n.Bindings()), len(portOfFlow))
		}
		wantOneClaim(t, n)
		wantNothingLeft(t, n)
	}
}

// TestAllAtOnce has frames of all kinds and sweeps, of few flows and ports, that come to their ends all the time: no port is lost, and what goes on is the frame that came, by some port.
func TestAllAtOnce(t *testing.T) {
	t.Parallel()
	rnd := rand.New(rand.NewSource(163))
	for range 40 {
		c := config(2+rnd.Intn(7), 1+rnd.Intn(40), 2<<rnd.Intn(4))
		n := newNat(t, c)
		deeds := make([][]deed, c.Workers)
		for w := range deeds {
			deeds[w] = someDeeds(rnd, c, 600, 0)
		}
		for w, l := range allAtOnce(n, deeds) {
			for k, a := range l {
				if d := deeds[w][k]; !d.sweep {
					wantTold(t, c, d, a)
				}
			}
		}
		wantOneClaim(t, n)
		wantNothingLeft(t, n)
	}
}

// wantTold holds what a frame was told against what a model tells of it, that has just a binding which lets it go on so.
func wantTold(t *testing.T, c plan.Config, d deed, a model.Answer) {
	t.Helper()
	_, e := model.Whose(c, d.out, d.frame)
	switch {
	case e != api.OK && a.Err != e:
		t.Fatalf("%+v: %+v, not %d", d, a, e)
	case a.Err != api.OK && (a.Frame != nil || a.Err != e && a.Err != api.ErrNone && a.Err != api.ErrNoPort && a.Err != api.ErrFull):
		t.Fatalf("%+v: %+v", d, a)
	case a.Err == api.OK && model.Begins(d.out, d.frame):
		m, _ := model.New(c)
		want := m.Step(model.Call{Out: true, Frame: d.frame, Tick: d.tick, Port: portOf(t, a.Frame)})
		if want.Err != api.OK || !bytes.Equal(want.Frame, a.Frame) {
			t.Fatalf("%+v: %+v, not %+v", d, a, want)
		}
	}
}
