package history_test

import (
	"math"
	"testing"

	"fanlight/api"
	"fanlight/history"
	"fanlight/model"
	"fanlight/sample"
)

func TestExample(t *testing.T) {
	h := history.New()
	begin(t, h, model.Call{}, 0)
	begin(t, h, model.Call{}, 1)
	end(t, h, 0, model.Answer{}, api.OK)
	begin(t, h, model.Call{}, 2)
	wantAll(t, h, 4, history.Entry{Begin: 1, End: 3}, history.Entry{Begin: 2, End: -1}, history.Entry{Begin: 4, End: -1})
	l := h.All()
	if !history.Ahead(l[0], l[2]) || history.Ahead(l[0], l[1]) {
		t.Error("who is ahead of whom?")
	}
}

func TestMoments(t *testing.T) {
	h := history.New()
	wantAll(t, h, 0)
	x := model.Call{Out: true, Frame: udp(5), Tick: 7, Port: 3}
	y := model.Call{Frame: []byte{1, 2}, Tick: -1, Port: math.MinInt}
	begin(t, h, x, 0)
	wantAll(t, h, 1, history.Entry{Begin: 1, End: -1, Call: x})
	begin(t, h, y, 1)
	ended(t, h, 2, 240, 6, 1000, 2)
	end(t, h, 1, model.Answer{Err: api.ErrShort}, api.OK)
	begin(t, h, model.Call{}, 3)
	end(t, h, 0, model.Answer{Err: api.ErrNone}, api.OK)
	ended(t, h, 1, 9, 17, 1001, 4)
	gone := func(begin, end, tick, proto, port int) history.Entry {
		return history.Entry{Begin: begin, End: end, Ends: true, Call: model.Call{Tick: tick}, Proto: proto, Port: port}
	}
	wantAll(t, h, 7,
		history.Entry{Begin: 1, End: 6, Call: x, Answer: model.Answer{Err: api.ErrNone}},
		history.Entry{Begin: 2, End: 4, Call: y, Answer: model.Answer{Err: api.ErrShort}},
		gone(2, 3, 240, 6, 1000),
		history.Entry{Begin: 5, End: -1},
		gone(1, 7, 9, 17, 1001))
}

// TestThePort has what the call's port is when it is done; it was 7.
func TestThePort(t *testing.T) {
	fragment := udp(1003)
	fragment[6] = 0x20
	ok := func(frame []byte) model.Answer { return model.Answer{Frame: frame} }
	for _, x := range []struct {
		name string
		out  bool
		a    model.Answer
		want int
	}{
		{"udp", true, ok(udp(1003)), 1003},
		{"tcp", true, ok(tcp(1004)), 1004},
		{"the highest port", true, ok(udp(65535)), 65535},
		{"the lowest port", true, ok(udp(0)), 0},
		{"echo", true, ok(echo(false, 1005)), 1005},
		{"echo's reply", true, ok(echo(true, 1006)), 1006},
		{"error", true, ok(fault(tcp(1007))), 1007},
		{"error about an echo", true, ok(fault(echo(false, 1008))), 1008},
		{"nothing goes out", true, ok(nil), 0},
		{"a head's sum", true, ok(spoilt(udp(1003), 8)), 0},
		{"a part's sum", true, ok(spoilt(udp(1003), 29)), 0},
		{"cut", true, ok(udp(1003)[:29]), 0},
		{"a piece", true, ok(fragment), 0},
		{"a protocol that isn't known", true, ok(sample.Lay(2, outer, far, make([]byte, 20))), 0},
		{"it comes in", false, ok(udp(1003)), 7},
		{"nothing comes in", false, ok(nil), 7},
		{"no port", true, model.Answer{Err: api.ErrNoPort}, -1},
		{"no room", true, model.Answer{Err: api.ErrFull}, -2},
		{"no port, and not out", false, model.Answer{Err: api.ErrNoPort}, -1},
		{"no room, and not out", false, model.Answer{Err: api.ErrFull}, -2},
		{"no port, but a frame", true, model.Answer{Err: api.ErrNoPort, Frame: udp(1003)}, -1},
		{"no room, but a frame", true, model.Answer{Err: api.ErrFull, Frame: udp(1003)}, -2},
		{"none, but a frame", true, model.Answer{Err: api.ErrNone, Frame: udp(1003)}, 7},
		{"none", true, model.Answer{Err: api.ErrNone}, 7},
		{"an argument", true, model.Answer{Err: api.ErrArg}, 7},
		{"at work", true, model.Answer{Err: api.ErrBusy}, 7},
		{"no error of api's", true, model.Answer{Err: -1, Frame: udp(1003)}, 7},
		{"no error of api's, either", false, model.Answer{Err: 12}, 7},
	} {
		h := history.New()
		call := model.Call{Out: x.out, Frame: udp(5), Tick: 3, Port: 7}
		begin(t, h, call, 0)
		end(t, h, 0, x.a, api.OK)
		call.Port = x.want
		if l := h.All(); len(l) != 1 || !sameEntry(l[0], history.Entry{Begin: 1, End: 2, Call: call, Answer: x.a}) {
			t.Errorf("%s: %+v", x.name, l)
		}
	}
}

// TestWhatCantBeNoted has calls that note nothing: none of them is a moment.
func TestWhatCantBeNoted(t *testing.T) {
	h := history.New()
	refused := func(now int, want ...history.Entry) {
		t.Helper()
		for _, i := range []int{-1, len(want), len(want) + 1, math.MaxInt, math.MinInt} {
			end(t, h, i, model.Answer{}, api.ErrArg)
		}
		for i, x := range want {
			if x.End != -1 {
				end(t, h, i, model.Answer{Frame: udp(9), Err: api.ErrNoPort}, api.ErrArg)
			}
		}
		for _, since := range []int{0, -1, now + 1, math.MaxInt, math.MinInt} {
			ended(t, h, since, 1, 17, 1000, -1)
		}
		wantAll(t, h, now, want...)
	}
	refused(0)
	begin(t, h, model.Call{Port: 5}, 0)
	going := history.Entry{Begin: 1, End: -1, Call: model.Call{Port: 5}}
	refused(1, going)
	ended(t, h, 1, 8, 17, 1000, 1)
	gone := history.Entry{Begin: 1, End: 2, Ends: true, Call: model.Call{Tick: 8}, Proto: 17, Port: 1000}
	refused(2, going, gone)
	end(t, h, 0, model.Answer{Err: api.ErrSum}, api.OK)
	going.End, going.Answer = 3, model.Answer{Err: api.ErrSum}
	refused(3, going, gone)
	ended(t, h, 3, -5, 0, math.MinInt, 2)
	refused(4, going, gone, history.Entry{Begin: 3, End: 4, Ends: true, Call: model.Call{Tick: -5}, Port: math.MinInt})
}

// TestEndsAreOfAnything has ends of what can't be: it is noted as it is told.
func TestEndsAreOfAnything(t *testing.T) {
	h := history.New()
	begin(t, h, model.Call{}, 0)
	want := []history.Entry{{Begin: 1, End: -1}}
	for i, x := range [][3]int{{0, 0, 0}, {maxTick, 17, 65535}, {-1, 256, -1}, {math.MaxInt, math.MinInt, math.MaxInt}} {
		ended(t, h, 1+i, x[0], x[1], x[2], 1+i)
		want = append(want, history.Entry{Begin: 1 + i, End: 2 + i, Ends: true, Call: model.Call{Tick: x[0]}, Proto: x[1], Port: x[2]})
	}
	wantAll(t, h, 5, want...)
}

func TestNilAndTheZeroValue(t *testing.T) {
	var none *history.History
	if none.Begin(model.Call{Frame: udp(5)}) != -1 || none.End(0, model.Answer{}) != api.ErrArg || none.Ended(1, 1, 17, 1000) != -1 || none.Ended(0, 0, 0, 0) != -1 {
		t.Error("nil notes something")
	}
	wantAll(t, none, 0)
	if history.New() == nil {
		t.Fatal("New is nil")
	}
	zero := &history.History{}
	wantAll(t, zero, 0)
	begin(t, zero, model.Call{Tick: 3}, 0)
	wantAll(t, zero, 1, history.Entry{Begin: 1, End: -1, Call: model.Call{Tick: 3}})
}

func TestHistoriesAreTheirOwn(t *testing.T) {
	a, b := history.New(), history.New()
	begin(t, a, model.Call{}, 0)
	begin(t, a, model.Call{}, 1)
	begin(t, b, model.Call{Tick: 9}, 0)
	end(t, b, 1, model.Answer{}, api.ErrArg)
	wantAll(t, b, 1, history.Entry{Begin: 1, End: -1, Call: model.Call{Tick: 9}})
	wantAll(t, a, 2, history.Entry{Begin: 1, End: -1}, history.Entry{Begin: 2, End: -1})
}
