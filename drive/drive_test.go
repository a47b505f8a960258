package drive_test

import (
	"bytes"
	"math"
	"slices"
	"testing"

	"fanlight/api"
	"fanlight/drive"
	"fanlight/model"
	"fanlight/plan"
	"fanlight/sample"
)

func TestNew(t *testing.T) {
	for _, x := range []struct {
		name   string
		change func(c *plan.Config)
	}{
		{"nothing is set", func(c *plan.Config) { *c = plan.Config{} }},
		{"no worker", func(c *plan.Config) { c.Workers = 0 }},
		{"too many workers", func(c *plan.Config) { c.Workers = api.MaxWorkers + 1 }},
		{"no address", func(c *plan.Config) { c.Outer = 0 }},
		{"no port", func(c *plan.Config) { c.Hi = c.Lo - 1 }},
		{"too many ports", func(c *plan.Config) { c.Hi = c.Lo + api.MaxPorts }},
		{"no such buckets", func(c *plan.Config) { c.Buckets = 3 }},
		{"no ring", func(c *plan.Config) { c.Ring = 0 }},
		{"too great a ring", func(c *plan.Config) { c.Ring = api.RingMost + 1 }},
	} {
		c := config(2, 10, 4, 4)
		x.change(&c)
		if d, e := drive.New(c); d != nil || e != api.ErrArg {
			t.Errorf("%s: %v, %d", x.name, d, e)
		}
	}
	for _, c := range []plan.Config{config(1, 1, 2, 1), config(api.MaxWorkers, api.MaxPorts, api.MaxBuckets, api.RingMost)} {
		d := newDrive(t, c)
		if d.Now() != 0 || d.Nat().Config() != c || len(d.Nat().Bindings()) != 0 {
			t.Errorf("%+v: %d, %+v", c, d.Now(), d.Nat().Config())
		}
		wantCounts(t, d, drive.Counts{})
		for w := range c.Workers {
			if d.Waiting(w) != 0 || len(d.Outs(w)) != 0 || !d.Pick(w) {
				t.Errorf("worker %d has something to do", w)
			}
		}
	}
}

func TestNothing(t *testing.T) {
	for _, d := range []*drive.Drive{nil, {}} {
		if n, w, e := d.Put(true, udp(host, far, 5, 53)); n != -1 || w != -1 || e != api.ErrArg {
			t.Errorf("Put: %d, %d, %d", n, w, e)
		}
		for _, w := range []int{0, -1, 1, math.MinInt, math.MaxInt} {
			if !d.Pick(w) || len(d.Outs(w)) != 0 || d.Waiting(w) != 0 {
				t.Error("worker", w)
			}
		}
		d.Rest()
		if d.Now() != 0 || d.Counts() != (drive.Counts{}) || d.Nat() != nil {
			t.Error(d.Now(), d.Counts(), d.Nat())
		}
	}
	var d *drive.Drive
	if d.Tick(0) != api.ErrArg || d.Tick(1) != api.ErrArg || d.Free() || d.Free() {
		t.Error("a nil Drive")
	}
}

// TestExample is the chapter's.
func TestExample(t *testing.T) {
	d := newDrive(t, config(3, 64, 16, 32))
	f := udp(host, farOf(3, 1, 0), 5, 53)
	wantPut(t, d, true, f, 0, 1)
	d.Rest()
	l := d.Outs(1)
	if len(l) != 1 || l[0].Number != 0 || l[0].Answer.Err != api.OK || len(d.Outs(0)) != 0 || len(d.Outs(2)) != 0 {
		t.Fatalf("%+v", l)
	}
	m, _ := model.New(d.Nat().Config())
	want := m.Step(model.Call{Out: true, Frame: f, Port: portOf(t, l[0].Answer.Frame)})
	if !bytes.Equal(l[0].Answer.Frame, want.Frame) || !slices.Equal(d.Nat().Bindings(), m.Bindings()) {
		t.Errorf("%+v, not %+v", l[0].Answer, want)
	}
	wantCounts(t, d, drive.Counts{Came: 1, Sent: 1})
	wantTick(t, d, 119)
	d.Rest()
	wantCounts(t, d, drive.Counts{Came: 1, Sent: 1})
	wantTick(t, d, 1)
	for range 3 {
		d.Rest()
	}
	wantCounts(t, d, drive.Counts{Came: 1, Sent: 1, Ended: 1})
	if l := d.Nat().Bindings(); len(l) != 0 {
		t.Errorf("%+v", l)
	}
}

// TestPut: numbers count what came in, whoever does it; who is refused gets none.
func TestPut(t *testing.T) {
	d := newDrive(t, config(3, 64, 16, 2))
	of := func(w int) []byte { return udp(host, farOf(3, w, 0), 5, 53) }
	wantPut(t, d, true, of(1), 0, 1)
	wantPut(t, d, true, of(2), 1, 2)
	wantPut(t, d, true, of(1), 2, 1)
	for range 3 {
		if n, w, e := d.Put(true, of(1)); n != -1 || w != 1 || e != api.ErrFull {
			t.Fatal(n, w, e)
		}
	}
	wantPut(t, d, false, udp(farOf(3, 2, 0), outer, 53, 1000), 3, 2)
	wantCounts(t, d, drive.Counts{Came: 4, Full: 3})
	if d.Waiting(0) != 0 || d.Waiting(1) != 2 || d.Waiting(2) != 2 {
		t.Fatal(d.Waiting(0), d.Waiting(1), d.Waiting(2))
	}
	finish(t, d, 1)
	if d.Waiting(1) != 0 || len(d.Outs(1)) != 2 || d.Outs(1)[0].Number != 0 || d.Outs(1)[1].Number != 2 || len(d.Outs(2)) != 0 {
		t.Fatalf("%+v", d.Outs(1))
	}
	wantPut(t, d, true, of(1), 4, 1)
	d.Rest()
	// The outer port 1000 has no binding.
	wantCounts(t, d, drive.Counts{Came: 5, Full: 3, Sent: 4, Dropped: 1})
	if l := d.Outs(1); len(l) != 3 || l[2].Number != 4 {
		t.Errorf("%+v", l)
	}
}

// TestPutOfWhatCantBeGot: it waits like others, for the first worker, and is told why.
func TestPutOfWhatCantBeGot(t *testing.T) {
	d := newDrive(t, config(5, 10, 4, 200))
	l := sample.Spoiled(host, far)
	for k, s := range l {
		wantPut(t, d, true, s.Frame, 2*k, 0)
		wantPut(t, d, false, s.Frame, 2*k+1, 0)
	}
	cells := d.Nat().Copy()
	d.Rest()
	if differ(cells, d.Nat().Copy()) > 0 {
		t.Error("a cell is changed by frames that can't be got")
	}
	for k, o := range d.Outs(0) {
		if o.Number != k || o.Answer.Err != l[k/2].Why || o.Answer.Frame != nil {
			t.Errorf("frame %d: %+v, not %d", k, o, l[k/2].Why)
		}
	}
	wantCounts(t, d, drive.Counts{Came: 2 * len(l), Dropped: 2 * len(l)})
}

// TestTheGreatestRing has as many wait as may, for the last of as many workers as may be.
func TestTheGreatestRing(t *testing.T) {
	d := newDrive(t, config(api.MaxWorkers, 10, 4, api.RingMost))
	f := udp(host, farOf(api.MaxWorkers, api.MaxWorkers-1, 0), 5, 53)
	for k := range api.RingMost {
		wantPut(t, d, true, f, k, api.MaxWorkers-1)
	}
	if n, w, e := d.Put(true, f); n != -1 || w != api.MaxWorkers-1 || e != api.ErrFull {
		t.Error(n, w, e)
	}
	d.Rest()
	wantCounts(t, d, drive.Counts{Came: api.RingMost, Full: 1, Sent: api.RingMost})
}

func TestTick(t *testing.T) {
	d := newDrive(t, config(1, 10, 4, 4))
	for _, by := range []int{-1, math.MinInt, maxTick + 1, math.MaxInt} {
		if e := d.Tick(by); e != api.ErrArg || d.Now() != 0 {
			t.Errorf("Tick(%d): %d, tick %d", by, e, d.Now())
		}
	}
	wantTick(t, d, 0)
	wantTick(t, d, 7)
	wantTick(t, d, 0)
	wantTick(t, d, maxTick-8)
	for _, by := range []int{2, maxTick, -1, math.MaxInt, math.MinInt} {
		if e := d.Tick(by); e != api.ErrArg || d.Now() != maxTick-1 {
			t.Errorf("Tick(%d): %d, tick %d", by, e, d.Now())
		}
	}
	wantTick(t, d, 1)
	wantTick(t, d, 0)
	if d.Tick(1) != api.ErrArg {
		t.Error(d.Now())
	}
	d.Rest()
	wantPut(t, d, true, udp(host, far, 5, 53), 0, 0)
	d.Rest()
	if l := d.Nat().Bindings(); len(l) != 1 || l[0].Seen != maxTick {
		t.Errorf("%+v", l)
	}
}

// TestPickOfNobody: there is no such worker, so it has nothing to do, and nothing is done.
func TestPickOfNobody(t *testing.T) {
	d := newDrive(t, config(2, 10, 4, 4))
	wantPut(t, d, true, udp(host, farOf(2, 1, 0), 5, 53), 0, 1)
	wantTick(t, d, 1)
	for _, w := range []int{-1, 2, 64, math.MinInt, math.MaxInt} {
		for range 200 {
			if !d.Pick(w) {
				t.Fatalf("worker %d has something to do", w)
			}
		}
		if len(d.Outs(w)) != 0 || d.Waiting(w) != 0 {
			t.Errorf("worker %d", w)
		}
	}
	if d.Waiting(1) != 1 || d.Nat().Busy(0) || d.Nat().Busy(1) {
		t.Error("something was done")
	}
	if d.Pick(0) || !d.Nat().Busy(0) || d.Nat().Busy(1) {
		t.Error("worker 0 should sweep, and nobody else")
	}
}

// TestTheTickOfAFrame: it is the one at which it begins, not the one at which it came, or was done.
func TestTheTickOfAFrame(t *testing.T) {
	d := newDrive(t, config(1, 10, 4, 4))
	wantTick(t, d, 3)
	wantPut(t, d, true, udp(host, far, 5, 53), 0, 0)
	finish(t, d, 0)
	wantPut(t, d, true, udp(host, far, 6, 53), 1, 0)
	wantTick(t, d, 5)
	for len(d.Outs(0)) == 1 {
		if d.Waiting(0) == 0 {
			wantTick(t, d, 2)
		}
		d.Pick(0)
	}
	l := d.Nat().Bindings()
	if len(l) != 2 || l[0].Seen != 3 || l[1].Seen != 8 {
		t.Errorf("%+v", l)
	}
}

// TestASweepForEachTick: one that has nothing begun sweeps ahead of the next frame, if the tick is another one, and just once; a sweep is at the tick at which it begins.
func TestASweepForEachTick(t *testing.T) {
	d := newDrive(t, config(1, 10, 4, 4))
	wantPut(t, d, true, udp(host, far, 5, 53), 0, 0)
	finish(t, d, 0)
	wantPut(t, d, true, udp(host, far, 5, 80), 1, 0)
	// Of its getting a number two steps are done: that is nothing begun.
	d.Pick(0)
	d.Pick(0)
	wantTick(t, d, 120)
	if d.Pick(0) || !d.Nat().Busy(0) || d.Waiting(0) != 1 {
		t.Fatal("it doesn't sweep")
	}
	wantTick(t, d, 100)
	for d.Nat().Busy(0) {
		d.Pick(0)
	}
	wantCounts(t, d, drive.Counts{Came: 1 + 1, Sent: 1, Ended: 1})
	// Now it sweeps once more, as the tick went on meanwhile; then the frame begins.
	if d.Pick(0) || !d.Nat().Busy(0) || d.Waiting(0) != 1 {
		t.Fatal("it doesn't sweep again")
	}
	finish(t, d, 0)
	if l := d.Nat().Bindings(); len(l) != 1 || l[0].Seen != 220 {
		t.Fatalf("%+v", l)
	}
	wantCounts(t, d, drive.Counts{Came: 2, Sent: 2, Ended: 1})
	for range 200 {
		if !d.Pick(0) {
			t.Fatal("it has something to do")
		}
	}
}

// TestEndedOfSweepsThatAreDone: what a sweep ended is counted when it is done.
func TestEndedOfSweepsThatAreDone(t *testing.T) {
	d := newDrive(t, config(1, 10, 4, 4))
	for k := range 3 {
		wantPut(t, d, true, udp(host, far, uint16(5+k), 53), k, 0)
	}
	d.Rest()
	wantTick(t, d, 120)
	for d.Pick(0); d.Nat().Busy(0); d.Pick(0) {
		if c := d.Counts(); c.Ended != 0 {
			t.Fatalf("%+v", c)
		}
	}
	wantCounts(t, d, drive.Counts{Came: 3, Sent: 3, Ended: 3})
	wantTick(t, d, 1)
	d.Rest()
	wantCounts(t, d, drive.Counts{Came: 3, Sent: 3, Ended: 3})
}

// TestNothingIsKept is P22.4, also of the room behind a frame.
func TestNothingIsKept(t *testing.T) {
	d := newDrive(t, config(1, 10, 4, 4))
	room := append(udp(host, far, 5, 53), bytes.Repeat([]byte{0xA5}, 40)...)
	was := bytes.Clone(room)
	wantPut(t, d, true, room[:len(room)-40], 0, 0)
	wantPut(t, d, true, room, 1, 0)
	if !bytes.Equal(room, was) {
		t.Error("what was handed in is changed")
	}
	clear(room)
	d.Rest()
	if !bytes.Equal(room, make([]byte, len(room))) {
		t.Error("what was handed in is changed")
	}
	a, b := d.Outs(0), d.Outs(0)
	if len(a) != 2 || a[0].Answer.Err != api.OK || !bytes.Equal(a[0].Answer.Frame, a[1].Answer.Frame) {
		t.Fatalf("%+v", a)
	}
	clear(a[0].Answer.Frame)
	_ = append(a[:1], drive.Out{Number: 9})
	if l := d.Outs(0); !bytes.Equal(l[0].Answer.Frame, b[0].Answer.Frame) || !bytes.Equal(b[0].Answer.Frame, b[1].Answer.Frame) || l[1].Number != 1 {
		t.Errorf("%+v", l)
	}
	if d.Nat() == nil || d.Nat() != d.Nat() {
		t.Error("the translator is another one each time")
	}
}
