package shell_test

import (
	"encoding/hex"
	"fmt"
	"strings"
	"testing"

	"fanlight/api"
	"fanlight/rewrite"
	"fanlight/sample"
	"fanlight/shell"
)

// do does lines of which each tells one.
func do(t *testing.T, s *shell.Shell, lines ...string) {
	t.Helper()
	for _, line := range lines {
		if l := s.Line(line); len(l) != 1 || l[0] == "what?" || l[0] == "no plan" {
			t.Fatalf("%.90q: %q", line, l)
		}
	}
}

// wentOut is how it is told that a frame went out by a port.
func wentOut(t *testing.T, frame []byte, port int) string {
	t.Helper()
	f, e := rewrite.Out(frame, outer, uint16(port))
	if e != api.OK {
		t.Fatal(e)
	}
	return "sent " + hex.EncodeToString(f)
}

// wentIn is how it is told that one came in to a port of the host.
func wentIn(t *testing.T, frame []byte, port int) string {
	t.Helper()
	f, e := rewrite.In(frame, host, uint16(port))
	if e != api.OK {
		t.Fatal(e)
	}
	return "sent " + hex.EncodeToString(f)
}

// TestFrames: numbers count what came, out or in; each is of the worker whose work it is, and waits till that one does it; outs are by workers.
func TestFrames(t *testing.T) {
	s := planned(t, config(3, 100, 16, 2))
	fars := []uint32{farOf(3, 0), farOf(3, 1), farOf(3, 2)}
	there, lost := udp(host, fars[2], 5, 53), udp(fars[1], outer, 53, 999)
	other, back := udp(host, fars[0], 7, 53), udp(fars[2], outer, 53, 1064)
	want(t, s, out(there), "frame 0 worker 2")
	want(t, s, in(lost), "frame 1 worker 1")
	want(t, s, out(other), "frame 2 worker 0")
	want(t, s, in(back), "frame 3 worker 2")
	for range 2 {
		want(t, s, in(back), "full 2")
	}
	want(t, s, out(there), "full 2")
	want(t, s, "outs")
	want(t, s, "counts", "came 4 full 3 sent 0 dropped 0 ended 0")
	want(t, s, "pick 2 10000", "picked")
	want(t, s, "outs", "2 0 "+wentOut(t, there, 1064), "2 3 "+wentIn(t, back, 5))
	want(t, s, "counts", "came 4 full 3 sent 2 dropped 0 ended 0")
	want(t, s, in(back), "frame 4 worker 2")
	want(t, s, "rest", "rest")
	l := s.Line("outs")
	if len(l) != 5 {
		t.Fatalf("%q", l)
	}
	want(t, s, "outs", "0 2 "+wentOut(t, other, portAt(t, l[0])), "1 1 drop 7", "2 0 "+wentOut(t, there, 1064), "2 3 "+wentIn(t, back, 5), "2 4 "+wentIn(t, back, 5))
	want(t, s, "counts", "came 5 full 3 sent 4 dropped 1 ended 0")
}

// portAt is the port by which a frame went out that an outs' line tells.
func portAt(t *testing.T, line string) int {
	t.Helper()
	w := strings.Fields(line)
	f, err := hex.DecodeString(w[len(w)-1])
	if err != nil {
		t.Fatal(line, err)
	}
	return portOf(f)
}

// TestWhyOnesAreDropped: each error is told by its number.
func TestWhyOnesAreDropped(t *testing.T) {
	l := sample.Spoiled(host, far)
	s := planned(t, config(1, 1, 2, 100))
	var told []string
	drop := func(line string, why api.Errno) {
		line = strings.TrimSuffix(line, " ") // of no bytes
		want(t, s, line, fmt.Sprintf("frame %d worker 0", len(told)))
		told = append(told, fmt.Sprintf("0 %d drop %d", len(told), why))
	}
	for _, x := range l {
		drop(out(x.Frame), x.Why)
		drop(in(x.Frame), x.Why)
	}
	drop(out(tcp(host, far, 5, 80, ack)), api.ErrNone)
	drop(in(udp(far, host, 53, 1000)), api.ErrNone)
	first := udp(host, far, 5, 53)
	want(t, s, out(first), fmt.Sprintf("frame %d worker 0", len(told)))
	told = append(told, fmt.Sprintf("0 %d %s", len(told), wentOut(t, first, 1000)))
	drop(out(udp(host, far, 6, 53)), api.ErrNoPort)
	want(t, s, "rest", "rest")
	want(t, s, "outs", told...)
	want(t, s, "counts", fmt.Sprintf("came %d full 0 sent 1 dropped %d ended 0", len(told), len(told)-1))
}

// TestNoRoom: what the table has no room for is dropped for it, too.
func TestNoRoom(t *testing.T) {
	s := planned(t, config(1, 100, 2, 100))
	for k := range 20 {
		do(t, s, out(udp(host, far, uint16(k), 53)))
	}
	do(t, s, "rest")
	l := s.Line("outs")
	if len(l) != 20 || l[19] != "0 19 drop 9" || len(s.Line("bindings")) != 8 {
		t.Errorf("%q", l)
	}
}

// TestBindings has some of each protocol, by their places, and of each state.
func TestBindings(t *testing.T) {
	s := planned(t, config(1, 50, 64, 100))
	web := func(from uint16, flags int) string { return out(tcp(0xC0A80A63, far, from, 80, flags)) }
	back := func(to uint16, flags int) string { return in(tcp(far, outer, 80, to, flags)) }
	do(t, s, out(udp(host, far, 65535, 53)), "rest", "tick 3")
	do(t, s, web(1, syn), web(2, syn), web(3, syn), web(4, syn), web(5, syn), "rest", "tick 4")
	for _, to := range []uint16{1001, 1002, 1003, 1004} {
		do(t, s, back(to, syn|ack))
	}
	do(t, s, web(3, fin|ack), back(1003, fin|ack), web(5, rst), out(udp(0xFFFFFFFE, far, 0, 53)), "rest")
	do(t, s, "tick 50", out(echo(false, host, far, 77)), in(udp(far, outer, 53, 1001)), "rest")
	want(t, s, "bindings",
		"icmp 10.0.0.1:77 1000 opening 57",
		"tcp 192.168.10.99:1 1000 opening 3",
		"tcp 192.168.10.99:2 1001 open 7",
		"tcp 192.168.10.99:3 1002 half out 7",
		"tcp 192.168.10.99:4 1003 half in 7",
		"tcp 192.168.10.99:5 1004 closed 7",
		"udp 10.0.0.1:65535 1000 opening 0",
		"udp 255.255.255.254:0 1001 opening 7",
	)
}

// TestPorts has each that may claim one.
func TestPorts(t *testing.T) {
	s := planned(t, config(2, 40, 16, 4))
	want(t, s, "ports", "icmp 1000-1039 pool", "tcp 1000-1039 pool", "udp 1000-1039 pool")
	do(t, s, out(udp(host, farOf(2, 0), 5, 53)), "rest")
	want(t, s, "ports", "icmp 1000-1039 pool", "tcp 1000-1039 pool", "udp 1000 bound", "udp 1001-1007 cache 0", "udp 1008-1039 pool")
	do(t, s, out(udp(host, farOf(2, 1), 6, 53)), "pick 1 10000")
	want(t, s, "ports", "icmp 1000-1039 pool", "tcp 1000-1039 pool", "udp 1000 bound", "udp 1001-1007 cache 0", "udp 1008-1031 pool", "udp 1032 bound", "udp 1033-1039 cache 1")
	do(t, s, "tick 120", "pick 1 10000", "pick 0 10000")
	if l := s.Line("ports"); !strings.Contains(strings.Join(l, "|"), "|udp 1000 retired 0|udp 1001-1007 cache 0|") {
		t.Errorf("%q", l)
	}
	do(t, s, "tick 1", "rest", "tick 1", "rest", "tick 1", "rest")
	want(t, s, "bindings")
	want(t, s, "counts", "came 2 full 0 sent 2 dropped 0 ended 2")
	want(t, s, "ports", "icmp 1000-1039 pool", "tcp 1000-1039 pool", "udp 1000-1007 cache 0", "udp 1008-1031 pool", "udp 1032-1039 cache 1")
}

// TestTick: the tick is told that is then; the last one may be reached, and not gone beyond.
func TestTick(t *testing.T) {
	s := shell.New()
	want(t, s, small, "ok")
	want(t, s, "tick 0", "tick 0")
	want(t, s, "tick 1", "tick 1")
	want(t, s, "tick 10", "tick 11")
	for _, told := range []string{"tick 1000000010", "tick 2000000009", "tick 3000000008", "tick 4000000007"} {
		want(t, s, "tick 999999999", told)
	}
	want(t, s, "tick 999999999", "no tick")
	want(t, s, "tick 294967289", "no tick")
	want(t, s, "tick 0", "tick 4000000007")
	want(t, s, "tick 294967288", "tick 4294967295")
	want(t, s, "tick 1", "no tick")
	want(t, s, "tick 0", "tick 4294967295")
	do(t, s, out(udp(host, far, 5, 53)), "rest")
	want(t, s, "bindings", "udp 10.0.0.1:5 1000 opening 4294967295")
}

// TestFree: all do what they have to do, at one time, once for each plan.
func TestFree(t *testing.T) {
	s := shell.New()
	for range 3 {
		want(t, s, "plan workers=4 outer=192.0.2.1 ports=1000-1199 buckets=64 ring=50", "ok")
		for w := range 4 {
			for k := range 20 {
				want(t, s, out(udp(host, farOf(4, w), uint16(5+k), 53)), fmt.Sprintf("frame %d worker %d", 20*w+k, w))
			}
		}
		want(t, s, "free", "free")
		want(t, s, "counts", "came 80 full 0 sent 80 dropped 0 ended 0")
		if l := s.Line("bindings"); len(l) != 20 {
			t.Errorf("%q", l)
		}
		do(t, s, out(udp(host, far, 5, 53)))
		want(t, s, "free", "no")
		want(t, s, "free", "no")
		want(t, s, "counts", "came 81 full 0 sent 80 dropped 0 ended 0")
		want(t, s, "rest", "rest")
		want(t, s, "counts", "came 81 full 0 sent 81 dropped 0 ended 0")
		// What isn't done at first is never done by it.
		do(t, s, "tick 200")
		want(t, s, "free", "no")
		want(t, s, "counts", "came 81 full 0 sent 81 dropped 0 ended 0")
	}
}

// TestWithNothingToDo: what is asked of those who have nothing to do is told likewise.
func TestWithNothingToDo(t *testing.T) {
	s := shell.New()
	want(t, s, small, "ok")
	for range 3 {
		want(t, s, "rest", "rest")
		want(t, s, "pick 0 10000", "picked")
		want(t, s, "pick 0 0", "picked")
		want(t, s, "outs")
		want(t, s, "bindings")
		want(t, s, "counts", "came 0 full 0 sent 0 dropped 0 ended 0")
	}
	want(t, s, "free", "free")
	want(t, s, "free", "no")
}
