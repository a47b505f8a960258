package linear_test

import (
	"bytes"
	"testing"

	"fanlight/api"
	"fanlight/history"
	"fanlight/linear"
	"fanlight/model"
	"fanlight/plan"
	"fanlight/sample"
)

const (
	outer   = 0xC0000201
	host    = 0x0A000001
	another = 0x0A000002
	far     = 0x08080808
)

const fin, syn, rst, ack = 1, 2, 4, 16

// config has so many ports, from 1000 on.
func config(workers, ports, buckets int) plan.Config {
	return plan.Config{Workers: workers, Outer: outer, Lo: 1000, Hi: 999 + ports, Buckets: buckets, Ring: 4}
}

var udp, tcp, echo, fault = sample.Udp, sample.Tcp, sample.Echo, sample.Fault

// sent is a datagram of host's port to the far end, that gets a port if it begins a binding; gone: as it goes out from a port.
func sent(from uint16, tick, port int) model.Call {
	return model.Call{Out: true, Frame: udp(host, far, from, 53), Tick: tick, Port: port}
}

func gone(port uint16) model.Answer { return model.Answer{Frame: udp(outer, far, port, 53)} }

// came is what comes from the far end to a port; got: as host gets it at its own.
func came(port uint16, tick int) model.Call {
	return model.Call{Frame: udp(far, outer, 53, port), Tick: tick}
}

func got(at uint16) model.Answer { return model.Answer{Frame: udp(far, host, 53, at)} }

func err(e api.Errno) model.Answer { return model.Answer{Err: e} }

func done(begin, end int, x model.Call, a model.Answer) history.Entry {
	return history.Entry{Begin: begin, End: end, Call: x, Answer: a}
}

func undone(begin int, x model.Call) history.Entry {
	return history.Entry{Begin: begin, End: -1, Call: x}
}

func ended(begin, end, tick, proto, port int) history.Entry {
	return history.Entry{Begin: begin, End: end, Ends: true, Call: model.Call{Tick: tick}, Proto: proto, Port: port}
}

// wantOrder wants an order that is right.
func wantOrder(t *testing.T, name string, c plan.Config, l []history.Entry) {
	t.Helper()
	o, ok := linear.Order(c, l)
	if !ok || !linear.Check(c, l, o) || !explains(c, l, o) {
		t.Errorf("%s: order %v, %v", name, o, ok)
	}
}

func wantNone(t *testing.T, name string, c plan.Config, l []history.Entry) {
	t.Helper()
	if o, ok := linear.Order(c, l); ok || len(o) > 0 {
		t.Errorf("%s: order %v, %v", name, o, ok)
	}
}

// explains is what an order is to be, word for word.
func explains(c plan.Config, l []history.Entry, order []int) bool {
	if plan.Wrong(c) != "" || !history.Right(l) {
		return false
	}
	at := map[int]int{}
	for k, i := range order {
		if _, twice := at[i]; twice || i < 0 || i > len(l)-1 {
			return false
		}
		at[i] = k
	}
	for i, x := range l {
		if _, stands := at[i]; x.End != -1 && !stands {
			return false
		}
	}
	for a := range at {
		for b := range at {
			if at[a] < at[b] && history.Ahead(l[b], l[a]) {
				return false
			}
		}
	}
	n, _ := model.New(c)
	for _, i := range order {
		x := l[i]
		if x.Ends && !n.Expire(x.Proto, x.Port, x.Call.Tick) {
			return false
		}
		if x.Ends {
			continue
		}
		if a := n.Step(x.Call); x.End != -1 && (a.Err != x.Answer.Err || !bytes.Equal(a.Frame, x.Answer.Frame)) {
			return false
		}
	}
	return true
}
