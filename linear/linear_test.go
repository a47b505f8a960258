package linear_test

import (
	"math"
	"testing"

	"fanlight/api"
	"fanlight/history"
	"fanlight/linear"
	"fanlight/model"
	"fanlight/plan"
)

func TestExample(t *testing.T) {
	c := config(2, 10, 4)
	l := []history.Entry{done(1, 4, sent(5, 0, 1003), gone(1003)), done(2, 3, sent(5, 0, 1003), gone(1003))}
	wantOrder(t, "one port", c, l)
	for _, order := range [][]int{{0, 1}, {1, 0}} {
		if !linear.Check(c, l, order) {
			t.Errorf("%v isn't right", order)
		}
	}
	l[1] = done(2, 3, sent(5, 0, 1004), gone(1004))
	wantNone(t, "two ports", c, l)
	for _, order := range [][]int{{0, 1}, {1, 0}} {
		if linear.Check(c, l, order) {
			t.Errorf("%v is right", order)
		}
	}
}

func TestWhatIsNoOrder(t *testing.T) {
	c := config(2, 10, 4)
	l := []history.Entry{done(1, 2, sent(5, 0, 1000), gone(1000)), done(1, 4, sent(6, 0, 1001), gone(1001)), undone(1, sent(7, 0, 1002))}
	for _, x := range []struct {
		order []int
		want  bool
	}{
		{[]int{0, 1}, true},
		{[]int{1, 0}, true},
		{[]int{0, 1, 2}, true},
		{[]int{2, 1, 0}, true},
		{[]int{1, 2, 0}, true},
		{nil, false},
		{[]int{0}, false},
		{[]int{1}, false},
		{[]int{2}, false},
		{[]int{0, 2}, false},
		{[]int{0, 0}, false},
		{[]int{0, 1, 0}, false},
		{[]int{0, 1, 1}, false},
		{[]int{0, 1, 2, 2}, false},
		{[]int{0, 1, 2, 0}, false},
		{[]int{0, 1, 3}, false},
		{[]int{0, 3}, false},
		{[]int{-1, 0, 1}, false},
		{[]int{0, 1, -1}, false},
		{[]int{0, 1, 2, math.MaxInt}, false},
		{[]int{math.MinInt, 0, 1}, false},
	} {
		if linear.Check(c, l, x.order) != x.want {
			t.Errorf("Check of %v isn't %v", x.order, x.want)
		}
	}
}

func TestNothingHappened(t *testing.T) {
	c := config(1, 1, 2)
	for _, l := range [][]history.Entry{nil, {}, {undone(1, sent(5, 0, 1000))}, {undone(3, model.Call{}), undone(9, model.Call{Tick: -1})}} {
		wantOrder(t, "nothing was told", c, l)
		if !linear.Check(c, l, nil) || !linear.Check(c, l, []int{}) {
			t.Errorf("%+v: no order is wrong", l)
		}
	}
	if linear.Check(c, nil, []int{0}) || linear.Check(c, nil, []int{-1}) {
		t.Error("a number of no entry is right")
	}
}

func TestConfigsThatAreWrong(t *testing.T) {
	for name, spoil := range map[string]func(c *plan.Config){
		"nothing": func(c *plan.Config) { *c = plan.Config{} },
		"workers": func(c *plan.Config) { c.Workers = 65 },
		"outer":   func(c *plan.Config) { c.Outer = 0 },
		"ports":   func(c *plan.Config) { c.Lo = 0 },
		"buckets": func(c *plan.Config) { c.Buckets = 3 },
		"ring":    func(c *plan.Config) { c.Ring = 0 },
	} {
		for _, l := range [][]history.Entry{nil, {undone(1, sent(5, 0, 1000))}, {done(1, 2, sent(5, 0, 1000), gone(1000))}} {
			c := config(2, 10, 4)
			order := []int{0}[:len(l)]
			if !linear.Check(c, l, order) {
				t.Errorf("%v is wrong", order)
			}
			spoil(&c)
			wantNone(t, name, c, l)
			if linear.Check(c, l, order) {
				t.Errorf("%s: %v is right", name, order)
			}
		}
	}
}

func TestEntriesThatArentRight(t *testing.T) {
	c := config(2, 10, 4)
	ok := done(1, 2, sent(5, 0, 1000), gone(1000))
	last := ended(3, 4, 120, 17, 1000)
	wantOrder(t, "right", c, []history.Entry{ok, last})
	for name, l := range map[string][]history.Entry{
		"at moment 0":           {done(0, 2, sent(5, 0, 1000), gone(1000)), last},
		"below":                 {done(-9, 2, sent(5, 0, 1000), gone(1000)), last},
		"at once":               {done(2, 2, sent(5, 0, 1000), gone(1000)), last},
		"ahead of itself":       {done(3, 2, sent(5, 0, 1000), gone(1000)), last},
		"no moment":             {done(1, -2, sent(5, 0, 1000), gone(1000)), last},
		"an end that isn't yet": {ok, ended(3, -1, 120, 17, 1000)},
		"an end at once":        {ok, ended(3, 3, 120, 17, 1000)},
		"not done, at moment 0": {ok, last, undone(0, sent(6, 0, 1000))},
	} {
		wantNone(t, name, c, l)
		for _, order := range [][]int{{0, 1}, {0, 1, 2}, {1, 0}, {0}} {
			if linear.Check(c, l, order) {
				t.Errorf("%s: %v is right", name, order)
			}
		}
	}
}

// TestWhoIsAhead has frames of one flow: the first one of them gets the port.
func TestWhoIsAhead(t *testing.T) {
	c := config(2, 10, 4)
	none := func(begin, end int) history.Entry { return done(begin, end, came(1000, 0), err(api.ErrNone)) }
	out := func(begin, end int) history.Entry { return done(begin, end, sent(5, 0, 1000), gone(1000)) }
	for _, x := range []struct {
		name string
		l    []history.Entry
		want bool
	}{
		{"none, and then one", []history.Entry{none(1, 2), out(3, 4)}, true},
		{"told the other way round", []history.Entry{out(3, 4), none(1, 2)}, true},
		{"one, and then none", []history.Entry{out(1, 2), none(3, 4)}, false},
		{"at one time", []history.Entry{out(1, 3), none(2, 4)}, true},
		{"done when it begins", []history.Entry{out(1, 3), none(3, 4)}, true},
		{"done just ahead", []history.Entry{out(1, 3), none(4, 5)}, false},
		{"one that isn't done", []history.Entry{undone(1, sent(5, 0, 1000)), none(8, 9)}, true},
		{"the second one didn't begin yet", []history.Entry{done(1, 2, came(1000, 0), got(5)), out(3, 4)}, false},
		{"nor one that isn't done", []history.Entry{done(1, 2, came(1000, 0), got(5)), undone(3, sent(5, 0, 1000))}, false},
		{"but this one did", []history.Entry{done(1, 2, came(1000, 0), got(5)), undone(2, sent(5, 0, 1000))}, true},
		{"by a third one", []history.Entry{none(5, 6), done(1, 2, came(1000, 0), got(5)), undone(1, sent(5, 0, 1000))}, false},
	} {
		if x.want {
			wantOrder(t, x.name, c, x.l)
		} else {
			wantNone(t, x.name, c, x.l)
		}
	}
	l := []history.Entry{none(1, 2), out(3, 4), undone(5, sent(6, 0, 1001)), undone(6, sent(7, 0, 1002))}
	for _, x := range []struct {
		order []int
		want  bool
	}{
		{[]int{0, 1}, true}, {[]int{0, 1, 2, 3}, true}, {[]int{0, 1, 3, 2}, true}, {[]int{0, 1, 3}, true},
		{[]int{1, 0}, false}, {[]int{2, 0, 1}, false}, {[]int{0, 2, 1}, false}, {[]int{0, 1, 2, 0}, false}, {[]int{0, 3, 1, 2}, false},
	} {
		if linear.Check(c, l, x.order) != x.want {
			t.Errorf("Check of %v isn't %v", x.order, x.want)
		}
	}
}

// TestWhatWasTold has one frame each, behind one that has a binding of port 1000.
func TestWhatWasTold(t *testing.T) {
	c := config(2, 2, 4)
	ahead := []history.Entry{done(1, 2, sent(5, 0, 1000), gone(1000))}
	for _, x := range []struct {
		name string
		call model.Call
		a    model.Answer
		want bool
	}{
		{"out again", sent(5, 0, 0), gone(1000), true},
		{"out again, whatever port it would get", sent(5, 0, -1), gone(1000), true},
		{"out by another port", sent(5, 0, 1001), gone(1001), false},
		{"out, but a byte is another one", sent(5, 0, 0), model.Answer{Frame: udp(outer, far, 1000, 54)}, false},
		{"out, and cut", sent(5, 0, 0), model.Answer{Frame: gone(1000).Frame[:29]}, false},
		{"nothing went out", sent(5, 0, 0), model.Answer{}, false},
		{"out, and an error", sent(5, 0, 0), model.Answer{Frame: gone(1000).Frame, Err: api.ErrNone}, false},
		{"in", came(1000, 0), got(5), true},
		{"in to another one", came(1000, 0), got(6), false},
		{"in to nobody", came(1001, 0), err(api.ErrNone), true},
		{"in to nobody, and nothing else", came(1001, 0), model.Answer{Frame: []byte{}, Err: api.ErrNone}, true},
		{"in to nobody, with a frame", came(1001, 0), model.Answer{Frame: []byte{0}, Err: api.ErrNone}, false},
		{"another error", came(1001, 0), err(api.ErrNoPort), false},
		{"no error", came(1001, 0), err(api.OK), false},
		{"no port", sent(6, 0, -1), err(api.ErrNoPort), true},
		{"no room", sent(6, 0, -2), err(api.ErrFull), true},
		{"no room, with no port", sent(6, 0, -1), err(api.ErrFull), false},
		{"another one's port", sent(6, 0, 1000), err(api.ErrArg), true},
		{"a new port", sent(6, 0, 1001), gone(1001), true},
		{"not got", model.Call{Out: true, Frame: []byte{1, 2}}, err(api.ErrShort), true},
		{"not got, and another error", model.Call{Out: true, Frame: []byte{1, 2}}, err(api.ErrForm), false},
		{"no such tick", sent(5, -1, 0), err(api.ErrArg), true},
		{"an echo", model.Call{Out: true, Frame: echo(false, host, far, 9), Port: 1000}, model.Answer{Frame: echo(false, outer, far, 1000)}, true},
		{"a segment", model.Call{Out: true, Frame: tcp(host, far, 5, 80, syn), Port: 1000}, model.Answer{Frame: tcp(outer, far, 1000, 80, syn)}, true},
		{"a segment that begins nothing", model.Call{Out: true, Frame: tcp(host, far, 5, 80, ack), Port: 1000}, err(api.ErrNone), true},
		{"an error", model.Call{Frame: fault(another, outer, udp(outer, far, 1000, 53))}, model.Answer{Frame: fault(another, host, udp(host, far, 5, 53))}, true},
	} {
		l := append(ahead, done(3, 4, x.call, x.a))
		if x.want {
			wantOrder(t, x.name, c, l)
		} else {
			wantNone(t, x.name, c, l)
		}
		if linear.Check(c, l, []int{0, 1}) != x.want {
			t.Errorf("%s: Check isn't %v", x.name, x.want)
		}
		// Of one that isn't done it is all the same what would be told.
		l[1].End = -1
		wantOrder(t, x.name+", not done", c, l)
		if !linear.Check(c, l, []int{0, 1}) || !linear.Check(c, l, []int{0}) {
			t.Errorf("%s: not done, and Check is false", x.name)
		}
	}
}

func TestEnds(t *testing.T) {
	c := config(2, 2, 4)
	out := done(1, 2, sent(5, 7, 1000), gone(1000))
	for _, x := range []struct {
		name string
		l    []history.Entry
		want bool
	}{
		{"its time is over", []history.Entry{out, ended(3, 4, 127, 17, 1000)}, true},
		{"ahead of its time", []history.Entry{out, ended(3, 4, 126, 17, 1000)}, false},
		{"another port", []history.Entry{out, ended(3, 4, 127, 17, 1001)}, false},
		{"another protocol", []history.Entry{out, ended(3, 4, 9999, 6, 1000)}, false},
		{"no port", []history.Entry{out, ended(3, 4, 127, 17, -1)}, false},
		{"no tick", []history.Entry{out, ended(3, 4, -1, 17, 1000)}, false},
		{"a tick that can't be", []history.Entry{out, ended(3, 4, 1<<32, 17, 1000)}, false},
		{"twice", []history.Entry{out, ended(3, 4, 127, 17, 1000), ended(3, 5, 127, 17, 1000)}, false},
		{"and made again", []history.Entry{out, ended(3, 4, 127, 17, 1000), done(3, 6, sent(6, 7, 1000), gone(1000))}, true},
		{"not made again by then", []history.Entry{out, ended(5, 7, 127, 17, 1000), done(3, 4, sent(6, 7, 1000), gone(1000))}, false},
		{"ended, made, ended", []history.Entry{ended(3, 8, 127, 17, 1000), ended(3, 7, 127, 17, 1000), done(3, 9, sent(6, 7, 1000), gone(1000)), out}, true},
		{"it was seen again", []history.Entry{out, done(3, 5, sent(5, 100, 0), gone(1000)), ended(4, 6, 127, 17, 1000)}, false},
		{"it was ended, and began again", []history.Entry{out, done(3, 5, sent(5, 100, 1000), gone(1000)), ended(4, 6, 127, 17, 1000)}, true},
		{"it was seen by one that isn't done", []history.Entry{out, undone(3, sent(5, 100, -1)), ended(4, 6, 127, 17, 1000)}, true},
		{"it was seen by one that isn't done, for another one saw it", []history.Entry{out, undone(3, sent(5, 100, -1)), ended(4, 6, 220, 17, 1000), done(4, 7, came(1000, 127), got(5))}, true},
		{"nobody made it", []history.Entry{ended(1, 2, 127, 17, 1000)}, false},
		{"one that isn't done made it", []history.Entry{ended(2, 3, 127, 17, 1000), undone(1, sent(5, 7, 1000))}, true},
		{"one that isn't done made another one", []history.Entry{ended(2, 3, 127, 17, 1000), undone(1, sent(5, 7, 1001))}, false},
		// A frame that stands in an end isn't looked at, nor what was told of it.
		{"a frame in an end", []history.Entry{out, {Begin: 3, End: 4, Ends: true, Call: model.Call{Out: true, Frame: udp(host, far, 9, 9), Tick: 127, Port: 1001}, Answer: err(api.ErrBusy), Proto: 17, Port: 1000}}, true},
	} {
		if x.want {
			wantOrder(t, x.name, c, x.l)
		} else {
			wantNone(t, x.name, c, x.l)
		}
	}
}

// TestWhoIsntDone has those that aren't done stand in the order only where they must, or do no harm.
func TestWhoIsntDone(t *testing.T) {
	c := config(2, 2, 4)
	l := []history.Entry{undone(1, sent(5, 0, 1000)), done(1, 2, sent(6, 0, 1000), gone(1000))}
	wantOrder(t, "it must be left out", c, l)
	if !linear.Check(c, l, []int{1}) || !linear.Check(c, l, []int{1, 0}) || linear.Check(c, l, []int{0, 1}) {
		t.Error("it may be left out, or follow")
	}
	l = append(l, done(3, 4, came(1000, 0), got(6)), ended(5, 6, 120, 17, 1000), done(7, 8, came(1000, 120), got(5)))
	wantOrder(t, "it must follow late", c, l)
	if !linear.Check(c, l, []int{1, 2, 3, 0, 4}) || linear.Check(c, l, []int{1, 2, 0, 3, 4}) || linear.Check(c, l, []int{1, 2, 3, 4, 0}) {
		t.Error("it must stand between")
	}
	l = []history.Entry{undone(1, sent(5, 0, 1000)), undone(1, sent(5, 0, 1001)), done(2, 3, came(1001, 0), got(5)), done(2, 3, came(1000, 0), err(api.ErrNone))}
	wantOrder(t, "one of two", c, l)
	l[3].Answer = got(5)
	wantNone(t, "both", c, l)
}
