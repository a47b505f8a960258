package linear_test

import (
	"testing"

	"fanlight/api"
	"fanlight/history"
	"fanlight/linear"
	"fanlight/model"
)

// atOnce is so many flows that go out at one time, each by a port of its own.
func atOnce(flows int) ([]history.Entry, []int) {
	var l []history.Entry
	var order []int
	for i := range flows {
		l = append(l, done(1+i, 2*flows+i, sent(uint16(i), 0, 1000+i), gone(uint16(1000+i))))
		order = append(order, flows-1-i)
	}
	return l, order
}

func TestTwelveAndOneMore(t *testing.T) {
	c := config(2, 1024, 1024)
	for _, many := range []int{1, 11, 12, 13, 14, 64, 1000} {
		l, order := atOnce(many)
		if many <= api.MaxCalls {
			wantOrder(t, "so few", c, l)
		} else {
			wantNone(t, "so many", c, l)
		}
		if !linear.Check(c, l, order) {
			t.Errorf("of %d Check is false", many)
		}
		l[0].Answer.Err = api.ErrNone
		if linear.Check(c, l, order) {
			t.Errorf("of %d Check is true", many)
		}
	}
}

func TestThirteenThatArentDone(t *testing.T) {
	c := config(2, 10, 4)
	var l []history.Entry
	for range 13 {
		l = append(l, undone(1, sent(5, 0, 1000)))
	}
	wantOrder(t, "twelve", c, l[:12])
	wantNone(t, "thirteen", c, l)
	if !linear.Check(c, l, nil) || !linear.Check(c, l, []int{12, 3}) {
		t.Error("Check is false")
	}
}

// TestPairs has a port that six flows have, one behind the other: each end must stand just behind its own frame (the ticks of others don't fit all of them), and was done ahead of it.
func TestPairs(t *testing.T) {
	c := config(2, 1, 4)
	var l []history.Entry
	var order []int
	for i := range 6 {
		l = append(l,
			ended(1, 20-2*i, 120*(i+1), 17, 1000),
			done(1, 21-2*i, sent(uint16(i), 120*i, 1000), gone(1000)))
		order = append(order, 2*i+1, 2*i)
	}
	wantOrder(t, "one behind the other", c, l)
	if !linear.Check(c, l, order) {
		t.Error("Check is false")
	}
	// One tick less, and the last one can't come to its end: no other end fits it.
	l[10].Call.Tick--
	wantNone(t, "a tick less", c, l)
}

// TestNoOrderOfMany has eleven that may come in any order, and one that may not come at all.
func TestNoOrderOfMany(t *testing.T) {
	c := config(2, 20, 16)
	for name, one := range map[string]func(i int) history.Entry{
		"frames":             func(i int) history.Entry { return done(1, 50, sent(uint16(i), i, 1000+i), gone(uint16(1000+i))) },
		"frames of one flow": func(i int) history.Entry { return done(1, 50, sent(5, i, 1000), gone(1000)) },
		"not done":           func(i int) history.Entry { return undone(1, sent(uint16(i), i, 1000+i)) },
		"not done, of few":   func(i int) history.Entry { return undone(1, sent(uint16(i%4), i, 1000+i)) },
		"not done, by few":   func(i int) history.Entry { return undone(1, sent(uint16(i), i, 1000+i%4)) },
		"not done, segments": func(i int) history.Entry {
			return undone(1, model.Call{Out: true, Frame: tcp(host, far, uint16(i%3), 80, []int{syn, fin, rst, syn}[i%4]), Tick: i, Port: 1000 + i})
		},
	} {
		var l []history.Entry
		for i := range 11 {
			l = append(l, one(i))
		}
		wantOrder(t, name, c, l)
		wantNone(t, name, c, append(l, done(1, 50, came(1019, 0), got(5))))
	}
}

// TestLongOrders has more entries than may be held against each other.
func TestLongOrders(t *testing.T) {
	c := config(2, 10, 4)
	const many = 50000
	var l []history.Entry
	var order []int
	for i := range many {
		l = append(l, done(1+2*i, 2+2*i, sent(5, 0, 1000), gone(1000)))
		order = append(order, i)
	}
	if !linear.Check(c, l, order) {
		t.Error("Check is false")
	}
	order[many-1], order[many-2] = many-2, many-1
	if linear.Check(c, l, order) {
		t.Error("Check is true")
	}
}
