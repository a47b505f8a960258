package drive_test

import (
	"bytes"
	"math/rand"
	"slices"
	"testing"

	"fanlight/api"
	"fanlight/drive"
	"fanlight/model"
	"fanlight/plan"
)

// sent is a frame that came in, and whose work it is.
type sent struct {
	frame
	worker int
}

// load puts frames into a Drive, as many as there is room for, of so many.
func load(d *drive.Drive, many int, some func() (bool, []byte)) []sent {
	var l []sent
	for range many {
		out, f := some()
		if _, w, e := d.Put(out, f); e == api.OK {
			l = append(l, sent{frame{out, f}, w})
		}
	}
	return l
}

// wantEachOnce is P22.2: of frames that are all that ever came.
func wantEachOnce(t *testing.T, d *drive.Drive, came []sent) {
	t.Helper()
	n := 0
	for w := range d.Nat().Config().Workers {
		last := -1
		for _, o := range d.Outs(w) {
			if o.Number <= last || o.Number >= len(came) || came[o.Number].worker != w {
				t.Fatalf("worker %d did frame %d behind %d", w, o.Number, last)
			}
			last = o.Number
			n++
		}
		if d.Waiting(w) != 0 || !d.Pick(w) {
			t.Fatalf("worker %d has something to do", w)
		}
	}
	if c := d.Counts(); n != len(came) || c.Came != n || c.Sent+c.Dropped != n {
		t.Fatalf("%d answers of %d frames: %+v", n, len(came), c)
	}
}

// wantOnePort is P22.3, of a Drive in which no binding came to its end.
func wantOnePort(t *testing.T, d *drive.Drive, came []sent) {
	t.Helper()
	c := d.Nat().Config()
	ports, flows := map[api.Flow]int{}, map[[2]int]api.Flow{}
	for w := range c.Workers {
		for _, o := range d.Outs(w) {
			f := came[o.Number]
			if !f.out || o.Answer.Err != api.OK {
				continue
			}
			flow, _ := model.Whose(c, true, f.bytes)
			port := portOf(t, o.Answer.Frame)
			at := [2]int{flow.Proto, port}
			was, seen := ports[flow]
			other, taken := flows[at]
			if seen && was != port || taken && other != flow {
				t.Fatalf("%+v goes out from %d and %d; port %d is also %+v's", flow, was, port, port, other)
			}
			ports[flow], flows[at] = port, flow
		}
	}
	for _, b := range d.Nat().Bindings() {
		if ports[b.Flow] != b.Port {
			t.Fatalf("%+v, and it goes out from %d", b, ports[b.Flow])
		}
	}
	if len(d.Nat().Bindings()) != len(ports) {
		t.Fatalf("%d bindings of %d flows", len(d.Nat().Bindings()), len(ports))
	}
}

// wantNothingLeft has time go by till the life of all is over.
func wantNothingLeft(t *testing.T, d *drive.Drive) {
	t.Helper()
	wantTick(t, d, 2*api.TcpTicks)
	for range 3 {
		d.Rest()
		wantTick(t, d, 1)
	}
	if l := d.Nat().Bindings(); len(l) != 0 {
		t.Fatalf("%+v", l)
	}
	wantOneClaim(t, d.Nat())
}

// someOut is a frame of one of so many flows that goes out to one of many far ends.
func someOut(rnd *rand.Rand, flows int) func() (bool, []byte) {
	return func() (bool, []byte) {
		from, to := uint16(rnd.Intn(flows)), far+uint32(rnd.Intn(200))
		switch rnd.Intn(3) {
		case 0:
			return true, echo(false, host, to, from)
		case 1:
			return true, tcp(host, to, from, 80, syn)
		}
		return true, udp(host, to, from, 53)
	}
}

// TestRestIsByTurns holds Rest against Picks of worker 0, 1 and so on, again and again.
func TestRestIsByTurns(t *testing.T) {
	t.Parallel()
	rnd := rand.New(rand.NewSource(223))
	for range 60 {
		c := config(1+rnd.Intn(8), 1+rnd.Intn(60), 2<<rnd.Intn(5), 8)
		a, b := newDrive(t, c), newDrive(t, c)
		for range 4 {
			load(a, 30, func() (bool, []byte) {
				out := rnd.Intn(4) > 0
				f := someFrame(rnd, out, c)
				b.Put(out, f)
				return out, f
			})
			by := choose(rnd, 0, 60, 120)
			wantTick(t, a, by)
			wantTick(t, b, by)
			a.Rest()
			byRounds(b)
			if !slices.Equal(a.Nat().Copy(), b.Nat().Copy()) || a.Counts() != b.Counts() {
				t.Fatalf("%+v, %+v", a.Counts(), b.Counts())
			}
			for w := range c.Workers {
				if !slices.EqualFunc(a.Outs(w), b.Outs(w), func(x, y drive.Out) bool {
					return x.Number == y.Number && x.Answer.Err == y.Answer.Err && bytes.Equal(x.Answer.Frame, y.Answer.Frame)
				}) {
					t.Fatalf("%+v, %+v", a.Outs(w), b.Outs(w))
				}
				if !a.Pick(w) {
					t.Fatalf("worker %d has something to do", w)
				}
			}
		}
	}
}

func byRounds(d *drive.Drive) {
	for idle := false; !idle; {
		idle = true
		for w := range d.Nat().Config().Workers {
			if !d.Pick(w) {
				idle = false
			}
		}
	}
}

// TestRest has many frames of few flows, by turns.
func TestRest(t *testing.T) {
	t.Parallel()
	rnd := rand.New(rand.NewSource(224))
	for range 40 {
		d := newDrive(t, config(1+rnd.Intn(16), 400, 512, 64))
		came := load(d, 1500, someOut(rnd, 1+rnd.Intn(200)))
		d.Rest()
		wantEachOnce(t, d, came)
		wantOnePort(t, d, came)
		wantOneClaim(t, d.Nat())
		wantNothingLeft(t, d)
	}
}

// TestFree has many frames of few flows, all at one time.
func TestFree(t *testing.T) {
	t.Parallel()
	rnd := rand.New(rand.NewSource(225))
	for range 60 {
		d := newDrive(t, config(1+rnd.Intn(16), 400, 512, 64))
		came := load(d, 1500, someOut(rnd, 1+rnd.Intn(200)))
		if !d.Free() {
			t.Fatal("it was the first time")
		}
		wantEachOnce(t, d, came)
		wantOnePort(t, d, came)
		wantOneClaim(t, d.Nat())
		if d.Counts().Dropped != 0 {
			t.Fatalf("%+v", d.Counts())
		}
		wantNothingLeft(t, d)
	}
}

// TestFreeWithSweeps has bindings come to their ends, and frames of all kinds, all at one time; ports and room are few.
func TestFreeWithSweeps(t *testing.T) {
	t.Parallel()
	rnd := rand.New(rand.NewSource(226))
	for range 300 {
		c := config(2+rnd.Intn(7), 1+rnd.Intn(40), 2<<rnd.Intn(4), 64)
		d := newDrive(t, c)
		some := func() (bool, []byte) {
			out := rnd.Intn(3) > 0
			if rnd.Intn(3) == 0 {
				return someOut(rnd, 60)()
			}
			return out, someFrame(rnd, out, c)
		}
		came := load(d, 200, some)
		d.Rest()
		wantTick(t, d, choose(rnd, 60, 120, 240))
		came = append(came, load(d, 400, some)...)
		if !d.Free() {
			t.Fatal("it was the first time")
		}
		wantEachOnce(t, d, came)
		wantOneClaim(t, d.Nat())
		wantRight(t, d, came)
		wantNothingLeft(t, d)
	}
}

// wantRight holds what each frame was told against what a model tells of it, that has just a binding which lets it go on so.
func wantRight(t *testing.T, d *drive.Drive, came []sent) {
	t.Helper()
	c := d.Nat().Config()
	for w := range c.Workers {
		for _, o := range d.Outs(w) {
			f, a := came[o.Number], o.Answer
			_, e := model.Whose(c, f.out, f.bytes)
			switch {
			case e != api.OK && a.Err != e:
				t.Fatalf("%+v: %+v, not %d", f, a, e)
			case a.Err != api.OK && (a.Frame != nil || a.Err != e && a.Err != api.ErrNone && a.Err != api.ErrNoPort && a.Err != api.ErrFull):
				t.Fatalf("%+v: %+v", f, a)
			case a.Err == api.OK && model.Begins(f.out, f.bytes):
				m, _ := model.New(c)
				if want := m.Step(model.Call{Out: true, Frame: f.bytes, Port: portOf(t, a.Frame)}); want.Err != api.OK || !bytes.Equal(want.Frame, a.Frame) {
					t.Fatalf("%+v: %+v, not %+v", f, a, want)
				}
			}
		}
	}
}

// TestFreeIsOnce: the first time alone, whether there is anything to do or not; Rest isn't Free.
func TestFreeIsOnce(t *testing.T) {
	d := newDrive(t, config(3, 10, 4, 4))
	d.Rest()
	wantPut(t, d, true, udp(host, farOf(3, 2, 0), 5, 53), 0, 2)
	if !d.Free() || len(d.Outs(2)) != 1 {
		t.Fatal("the first time it does all")
	}
	wantPut(t, d, true, udp(host, farOf(3, 2, 0), 5, 53), 1, 2)
	wantTick(t, d, 1)
	cells := d.Nat().Copy()
	for range 3 {
		if d.Free() {
			t.Error("again")
		}
	}
	if d.Waiting(2) != 1 || len(d.Outs(2)) != 1 || d.Nat().Busy(0) || differ(cells, d.Nat().Copy()) > 0 {
		t.Error("later it does nothing")
	}
	d.Rest()
	wantCounts(t, d, drive.Counts{Came: 2, Sent: 2})
	d = newDrive(t, config(3, 10, 4, 4))
	if !d.Free() || d.Free() {
		t.Error("of nothing to do it is the first time, too")
	}
}

// TestFreeGoesOn: it ends what was begun ahead of it by Picks.
func TestFreeGoesOn(t *testing.T) {
	rnd := rand.New(rand.NewSource(227))
	for range 50 {
		d := newDrive(t, config(4, 100, 64, 16))
		came := load(d, 60, someOut(rnd, 9))
		for range rnd.Intn(300) {
			d.Pick(rnd.Intn(4))
		}
		d.Free()
		wantEachOnce(t, d, came)
		wantOnePort(t, d, came)
	}
}

// lastRooms is flows that come when there are but two rooms in the table, and when each begins to fight for one. Of them it was seen that by turns nobody ever got one.
func lastRooms() (stand, come []api.Flow, from []int) {
	var l []api.Flow
	for _, x := range [][2]int{
		{797046946, 35280}, {3556527810, 33235}, {498331843, 7323}, {793950674, 13691}, {4008128607, 6678}, {3596839621, 52242}, {4061013200, 9536},
		{1321446094, 6897}, {3127572125, 20421}, {4161603264, 17499}, {3921695116, 47398}, {3593813338, 8898}, {1028769418, 7239}, {1288967788, 52112},
		{993583184, 3798}, {759629168, 14740}, {626995367, 29842}, {1707760381, 38178}, {3578531432, 8099}, {2666375209, 48228}, {1684260312, 30161}, {1971173361, 57934},
	} {
		l = append(l, api.Flow{Proto: api.Udp, Addr: uint32(x[0]), Port: uint16(x[1])})
	}
	return l[:14], l[14:], []int{17, 26, 18, 12, 19, 36, 38, 4}
}

// TestRestEnds: those who fight for the last rooms in the table are done, though all do their steps by turns.
func TestRestEnds(t *testing.T) {
	stand, come, from := lastRooms()
	workers := len(come)
	d := newDrive(t, config(workers, 400, 4, 4))
	frames := func(l []api.Flow, first int) {
		for k, f := range l {
			w := k % workers
			wantPut(t, d, true, udp(f.Addr, farOf(workers, w, 0), f.Port, 53), first+k, w)
			if first == 0 {
				d.Rest()
			}
		}
	}
	frames(stand, 0)
	if n := len(d.Nat().Bindings()); n != len(stand) {
		t.Fatalf("%d bindings", n)
	}
	frames(come, len(stand))
	for w := range workers {
		for d.Nat().Holds(w) < 0 {
			d.Pick(w)
		}
	}
	for round := range slices.Max(from) {
		for w := range workers {
			if round >= from[w] {
				d.Pick(w)
			}
		}
	}
	for range 5000 {
		idle := true
		for w := range workers {
			idle = d.Pick(w) && idle
		}
		if idle {
			break
		}
	}
	c := d.Counts()
	if c.Sent+c.Dropped != c.Came || c.Sent < len(stand)+1 {
		t.Fatalf("they have no end: %+v", c)
	}
	d.Rest()
	wantOneClaim(t, d.Nat())
}

// TestRestOfTheGreatest has as many workers as may be, all at work.
func TestRestOfTheGreatest(t *testing.T) {
	t.Parallel()
	rnd := rand.New(rand.NewSource(228))
	c := plan.Config{Workers: api.MaxWorkers, Outer: outer, Lo: 1, Hi: api.MaxPorts, Buckets: api.MaxBuckets, Ring: api.RingMost}
	for _, free := range []bool{false, true} {
		d := newDrive(t, c)
		came := load(d, 6000, someOut(rnd, 500))
		if free {
			d.Free()
		} else {
			d.Rest()
		}
		wantEachOnce(t, d, came)
		wantOnePort(t, d, came)
	}
}
