package linear_test

import (
	"bytes"
	"math/rand"
	"slices"
	"testing"

	"fanlight/api"
	"fanlight/history"
	"fanlight/linear"
	"fanlight/model"
	"fanlight/plan"
)

// someCall is a frame of one of few flows, that goes out or comes in, at some tick.
func someCall(rnd *rand.Rand) model.Call {
	port, at := uint16(1000+rnd.Intn(3)), uint16(5+rnd.Intn(2))
	x := model.Call{Out: rnd.Intn(3) > 0, Tick: 60 * rnd.Intn(5), Port: 1000 + rnd.Intn(3)}
	if rnd.Intn(6) == 0 {
		x.Port = -1 - rnd.Intn(2)
	}
	flags := []int{syn, syn, syn | ack, fin, rst, ack}[rnd.Intn(6)]
	switch kind := rnd.Intn(8); {
	case kind == 0 && x.Out:
		x.Frame = echo(false, host, far, at)
	case kind == 0:
		x.Frame = echo(true, far, outer, port)
	case kind == 1 && x.Out:
		x.Frame = fault(host, far, udp(far, host, 53, at))
	case kind == 1:
		x.Frame = fault(another, outer, udp(outer, far, port, 53))
	case kind < 4 && x.Out:
		x.Frame = tcp(host, far, at, 80, flags)
	case kind < 4:
		x.Frame = tcp(far, outer, 80, port, flags)
	case x.Out:
		x.Frame = udp(host, far, at, 53)
	default:
		x.Frame = udp(far, outer, 53, port)
	}
	return x
}

// happened is what a model told, of things that went on at one time: the order in which they stand is right.
func happened(rnd *rand.Rand, c plan.Config, many int) []history.Entry {
	n, _ := model.New(c)
	var l []history.Entry
	for i := range many {
		x := history.Entry{Call: someCall(rnd)}
		if b := n.Bindings(); len(b) > 0 && rnd.Intn(3) == 0 {
			one := b[rnd.Intn(len(b))]
			end := ended(0, 0, 60*rnd.Intn(6), one.Flow.Proto, one.Port)
			if n.Expire(end.Proto, end.Port, end.Call.Tick) {
				x = end
			}
		}
		if !x.Ends {
			x.Answer = n.Step(x.Call)
		}
		x.Begin, x.End = max(1, 10*i-rnd.Intn(25)), 10*i+2+rnd.Intn(25)
		if !x.Ends && rnd.Intn(4) == 0 {
			x.End = -1
		}
		l = append(l, x)
	}
	return l
}

func shuffle(rnd *rand.Rand, l []history.Entry) []history.Entry {
	rnd.Shuffle(len(l), func(i, j int) { l[i], l[j] = l[j], l[i] })
	return l
}

// spoil changes something in an entry.
func spoil(rnd *rand.Rand, x *history.Entry) {
	switch rnd.Intn(5) {
	case 0:
		x.Call.Tick += 60*rnd.Intn(5) - 120
	case 1:
		x.Call.Port = 1000 + rnd.Intn(3)
	case 2:
		x.Answer.Err = api.Errno(rnd.Intn(12))
	case 3:
		x.Answer.Frame = udp(outer, far, uint16(1000+rnd.Intn(3)), 53)
	case 4:
		x.Begin, x.End = rnd.Intn(50), rnd.Intn(60)-1
	}
}

// orders is all lists of some of so many numbers, none of them twice.
func orders(many int) [][]int {
	all := [][]int{nil}
	for k := 0; k < len(all); k++ {
		for i := range many {
			if !slices.Contains(all[k], i) {
				all = append(all, append(slices.Clone(all[k]), i))
			}
		}
	}
	return all
}

// TestAllOrders holds Check of each order, and Order, against what an order is to be.
func TestAllOrders(t *testing.T) {
	c := config(2, 3, 4)
	lists := [][][]int{orders(0), orders(1), orders(2), orders(3), orders(4), orders(5)}
	some, none, partly := 0, 0, 0
	for seed := range 8000 {
		rnd := rand.New(rand.NewSource(int64(seed)))
		l := happened(rnd, c, 1+rnd.Intn(5))
		if rnd.Intn(2) == 0 {
			spoil(rnd, &l[rnd.Intn(len(l))])
		}
		shuffle(rnd, l)
		right := 0
		for _, order := range lists[len(l)] {
			want := explains(c, l, order)
			if linear.Check(c, l, order) != want {
				t.Fatalf("seed %d: Check of %v isn't %v, of %+v", seed, order, want, l)
			}
			if want {
				right++
			}
		}
		order, ok := linear.Order(c, l)
		if ok != (right > 0) || !ok && len(order) > 0 || ok && !explains(c, l, order) {
			t.Fatalf("seed %d: Order is %v, %v: %d are right, of %+v", seed, order, ok, right, l)
		}
		switch {
		case right == 0:
			none++
		case right < len(lists[len(l)]):
			partly++
		}
		if ok {
			some++
		}
	}
	t.Logf("%d with an order, %d of these with some, %d without", some, partly, none)
	if some < 300 || none < 300 || partly < 300 {
		t.Error("too few of a kind")
	}
}

// TestThereWasAnOrder has up to twelve of which a model told just so: an order is found, whichever it is.
func TestThereWasAnOrder(t *testing.T) {
	c := config(2, 3, 4)
	for seed := range 8000 {
		rnd := rand.New(rand.NewSource(int64(seed)))
		l := shuffle(rnd, happened(rnd, c, 6+rnd.Intn(7)))
		if o, ok := linear.Order(c, l); !ok || !explains(c, l, o) {
			t.Fatalf("seed %d: Order is %v, %v, of %+v", seed, o, ok, l)
		}
	}
}

// TestNothingIsKept has all that is handed in overwritten behind each call.
func TestNothingIsKept(t *testing.T) {
	c := config(2, 3, 4)
	for seed := range 200 {
		rnd := rand.New(rand.NewSource(int64(seed)))
		l := shuffle(rnd, happened(rnd, c, 8))
		all := append(slices.Clone(l), done(9, 9, sent(5, 0, 1000), gone(1000)))
		was := copyOf(all)
		order, ok := linear.Order(c, all[:8:9])
		if !ok || !slices.EqualFunc(all, was, sameEntry) {
			t.Fatalf("seed %d: the entries were changed", seed)
		}
		spare := append(slices.Clone(order), 99)
		if !linear.Check(c, all[:8:9], spare[:len(order)]) || !slices.EqualFunc(all, was, sameEntry) || !slices.Equal(spare, append(slices.Clone(order), 99)) {
			t.Fatalf("seed %d: Check changed something", seed)
		}
		again, _ := linear.Order(c, all[:8])
		kept := slices.Clone(again)
		clear(all)
		for i := range order[:cap(order)] {
			order[:cap(order)][i] = -7
		}
		if !slices.Equal(again, kept) {
			t.Fatalf("seed %d: two answers share memory", seed)
		}
		third, _ := linear.Order(c, was[:8])
		if !slices.Equal(third, kept) {
			t.Fatalf("seed %d: %v, and then %v", seed, kept, third)
		}
	}
}

func copyOf(l []history.Entry) []history.Entry {
	l = slices.Clone(l)
	for i := range l {
		l[i].Call.Frame, l[i].Answer.Frame = bytes.Clone(l[i].Call.Frame), bytes.Clone(l[i].Answer.Frame)
	}
	return l
}

func sameEntry(a, b history.Entry) bool {
	return a.Begin == b.Begin && a.End == b.End && a.Ends == b.Ends && a.Proto == b.Proto && a.Port == b.Port &&
		a.Call.Out == b.Call.Out && a.Call.Tick == b.Call.Tick && a.Call.Port == b.Call.Port && a.Answer.Err == b.Answer.Err &&
		bytes.Equal(a.Call.Frame, b.Call.Frame) && bytes.Equal(a.Answer.Frame, b.Answer.Frame)
}
