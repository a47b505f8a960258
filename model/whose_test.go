package model_test

import (
	"testing"

	"fanlight/api"
	"fanlight/model"
	"fanlight/part"
	"fanlight/plan"
	"fanlight/sample"
)

func wantWhose(t *testing.T, out bool, f frame, want api.Flow, why api.Errno) {
	t.Helper()
	if got, e := model.Whose(config(), out, f.bytes()); got != want || e != why {
		t.Errorf("Whose, out %v, of %+v: %+v %d, not %+v %d", out, f, got, e, want, why)
	}
}

func TestWhoseOfWhatGoesOut(t *testing.T) {
	wantWhose(t, true, udp(host, far, 5, 53), api.Flow{Proto: 17, Addr: host, Port: 5}, api.OK)
	wantWhose(t, true, tcp(host, far, 5, 80, syn), api.Flow{Proto: 6, Addr: host, Port: 5}, api.OK)
	wantWhose(t, true, echo(false, host, far, 5), api.Flow{Proto: 1, Addr: host, Port: 5}, api.OK)
	wantWhose(t, true, echo(true, host, far, 5), api.Flow{Proto: 1, Addr: host, Port: 5}, api.OK)
	for _, teller := range []uint32{host, gate} {
		wantWhose(t, true, fault(teller, far, udp(far, host, 53, 5)), api.Flow{Proto: 17, Addr: host, Port: 5}, api.OK)
		wantWhose(t, true, fault(teller, far, tcp(far, host, 80, 5, ack)), api.Flow{Proto: 6, Addr: host, Port: 5}, api.OK)
		wantWhose(t, true, fault(teller, far, echo(true, far, host, 5)), api.Flow{Proto: 1, Addr: host, Port: 5}, api.OK)
	}
	// From inside all addresses may be, at both ends.
	wantWhose(t, true, udp(outer, outer, 5, 1000), api.Flow{Proto: 17, Addr: outer, Port: 5}, api.OK)
	wantWhose(t, true, udp(0, 0xFFFFFFFF, 0, 65535), api.Flow{Proto: 17}, api.OK)
}

func TestWhoseOfWhatComesIn(t *testing.T) {
	wantWhose(t, false, udp(far, outer, 53, 1000), api.Flow{Proto: 17, Addr: outer, Port: 1000}, api.OK)
	wantWhose(t, false, tcp(far, outer, 80, 1000, ack), api.Flow{Proto: 6, Addr: outer, Port: 1000}, api.OK)
	wantWhose(t, false, echo(true, far, outer, 1000), api.Flow{Proto: 1, Addr: outer, Port: 1000}, api.OK)
	wantWhose(t, false, echo(false, far, outer, 1000), api.Flow{Proto: 1, Addr: outer, Port: 1000}, api.OK)
	for _, teller := range []uint32{far, midway} {
		wantWhose(t, false, fault(teller, outer, udp(outer, far, 1000, 53)), api.Flow{Proto: 17, Addr: outer, Port: 1000}, api.OK)
		wantWhose(t, false, fault(teller, outer, tcp(outer, far, 1000, 80, syn)), api.Flow{Proto: 6, Addr: outer, Port: 1000}, api.OK)
		wantWhose(t, false, fault(teller, outer, echo(false, outer, far, 1000)), api.Flow{Proto: 1, Addr: outer, Port: 1000}, api.OK)
	}
	// A port that isn't one of the plan's is told, too.
	wantWhose(t, false, udp(far, outer, 53, 7), api.Flow{Proto: 17, Addr: outer, Port: 7}, api.OK)
}

func TestWhoseOfWhatComesToOthers(t *testing.T) {
	none := api.Flow{}
	for _, addr := range []uint32{host, far, outer ^ 1, outer ^ 1<<31, 0, 0xFFFFFFFF} {
		wantWhose(t, false, udp(outer, addr, 53, 1000), none, api.ErrNone)
		wantWhose(t, false, tcp(outer, addr, 80, 1000, ack), none, api.ErrNone)
		wantWhose(t, false, echo(true, outer, addr, 1000), none, api.ErrNone)
		// Either of an error's two addresses may be another one.
		wantWhose(t, false, fault(midway, addr, udp(outer, far, 1000, 53)), none, api.ErrNone)
		wantWhose(t, false, fault(midway, outer, udp(addr, outer, 1000, 53)), none, api.ErrNone)
		wantWhose(t, false, fault(midway, outer, echo(false, addr, outer, 1000)), none, api.ErrNone)
		wantWhose(t, false, fault(outer, addr, tcp(addr, outer, 1000, 53, syn)), none, api.ErrNone)
	}
}

func TestWhoseAsksForTheOuterAddressAlone(t *testing.T) {
	f := udp(far, outer, 53, 1000).bytes()
	if got, e := model.Whose(plan.Config{Outer: outer}, false, f); e != api.OK || got.Port != 1000 {
		t.Errorf("%+v %d", got, e)
	}
	if got, e := model.Whose(plan.Config{}, false, f); e != api.ErrNone || got != (api.Flow{}) {
		t.Errorf("%+v %d", got, e)
	}
	if got, e := model.Whose(plan.Config{}, true, f); e != api.OK || got != (api.Flow{Proto: 17, Addr: far, Port: 53}) {
		t.Errorf("%+v %d", got, e)
	}
}

// TestWhoseOfWhatCantBeGot has frames to the outer address, and to others: why they can't be got is told first.
func TestWhoseOfWhatCantBeGot(t *testing.T) {
	for _, dst := range []uint32{outer, far} {
		for _, s := range sample.Spoiled(host, dst) {
			for _, out := range []bool{true, false} {
				if got, e := model.Whose(config(), out, s.Frame); e != s.Why || got != (api.Flow{}) {
					t.Errorf("Whose, out %v, of %x: %+v %d, not %d", out, s.Frame, got, e, s.Why)
				}
			}
			if model.Begins(true, s.Frame) || model.Begins(false, s.Frame) {
				t.Errorf("%x begins a binding", s.Frame)
			}
		}
	}
}

func TestWhoseLetsBeWhatStandsBehindThePacket(t *testing.T) {
	b := append(udp(host, far, 5, 53).bytes(), 1, 2, 3)
	if got, e := model.Whose(config(), true, b); e != api.OK || got != (api.Flow{Proto: 17, Addr: host, Port: 5}) {
		t.Errorf("%+v %d", got, e)
	}
	if !model.Begins(true, b) {
		t.Error("it doesn't begin a binding")
	}
}

func wantBegins(t *testing.T, f frame, want bool) {
	t.Helper()
	if model.Begins(true, f.bytes()) != want {
		t.Errorf("Begins of %+v isn't %v", f, want)
	}
	if model.Begins(false, f.bytes()) {
		t.Errorf("%+v begins a binding from outside", f)
	}
}

func TestBegins(t *testing.T) {
	wantBegins(t, udp(host, far, 5, 53), true)
	wantBegins(t, echo(false, host, far, 5), true)
	wantBegins(t, echo(true, host, far, 5), false)
	for flags := range 256 {
		wantBegins(t, tcp(host, far, 5, 80, flags), flags&(fin|syn|rst|ack) == syn)
	}
	for _, about := range []frame{udp(far, host, 53, 5), tcp(far, host, 80, 5, syn), echo(false, far, host, 5)} {
		wantBegins(t, fault(host, far, about), false)
	}
	// Of an error neither its kind nor what it is about counts, whichever of the three it is.
	for _, kind := range []int{3, 11, 12} {
		b := lay(api.Icmp, host, far, part.Fault(kind, 0, udp(far, host, 53, 5).bytes()))
		if model.Begins(true, b) {
			t.Errorf("an error of kind %d begins a binding", kind)
		}
	}
}
