package shell_test

import (
	"bytes"
	"strings"
	"testing"

	"fanlight/api"
	"fanlight/sample"
	"fanlight/shell"
)

// strange is lines that can't be, with or without a plan.
func strange() []string {
	l := []string{
		" ", "  ", "x", "plan", "Plan", "planx", "plans x", " plan x", "PLAN x", "plan\tx", "plan=x", "\n", "\x00", "é", "\xff", "what?", "ok", "no plan", "0", "-", "frame 0 worker 0",
		"out x", "out 0", "out 000", "out 0g", "out g0", "out AB", "out aB", "out Ab", "out 0x", "out 0x00", "out -1", "out +0", "out 00 00", "out 00 ", "out  00", "out ", "out 00\n", "out\t00", "out 0/", "out :0", "out `0", "out 0é", "out\n", "out00",
		"in x", "in 0", "in 00 00", "in ", "in  00", "in FF", "in 00 x", "In 00", "Out 00", "i 00", "inn 00",
		"tick", "tick ", "tick  5", "tick 5 ", "tick x", "tick 05", "tick 00", "tick -1", "tick +1", "tick -0", "tick 1000000000", "tick 0000000001", "tick 18446744073709551616", "tick 1e3", "tick 0x1", "tick 1_0", "tick 1.0", "tick 5 5", "tick ٣", "tick 5x", "Tick 5", "ticks 5", "tick 99999999999999999999999999", "tick 9223372036854775808",
		"pick", "pick 0", "pick ", "pick 0 ", "pick  0 3", "pick 0  3", "pick 0 3 ", "pick 0 3 3", "pick x 3", "pick 0 x", "pick 00 3", "pick 0 03", "pick -1 3", "pick 0 -1", "pick +0 3", "pick 0 +3", "pick 0 10001", "pick 0 10010", "pick 0 99999", "pick 0 999999999", "pick 0 1000000000", "pick 1000000000 1", "pick 5 10001", "pick 4294967296 1", "pick 18446744073709551616 1", "picks 0 3", "Pick 0 3", "pick,0,3",
	}
	for _, w := range []string{"rest", "free", "outs", "bindings", "ports", "counts"} {
		l = append(l, w+" ", " "+w, w+" 0", w+" x", w+"x", w[1:], strings.ToUpper(w), w+"\n", w+"\r", w+" "+w, w+"\x00", w+"  ")
	}
	return append(l, "out "+strings.Repeat("0", 3001), "out "+strings.Repeat("0", 3002), "in "+strings.Repeat("0", 3002), "in "+strings.Repeat("00", 3000), "out "+strings.Repeat("00 ", 1000), strings.Repeat(" ", 1<<16), strings.Repeat("0", 1<<16), "tick "+strings.Repeat("1", 1<<16), "pick 0 "+strings.Repeat("0", 1<<16), "out "+strings.Repeat("00", 1<<16), strings.Repeat("rest ", 1<<16))
}

// TestWhat: such lines are told so, whether there is a plan or not, and do nothing.
func TestWhat(t *testing.T) {
	none, s := shell.New(), shell.New()
	want(t, s, small, "ok")
	want(t, s, out(udp(host, far, 5, 53)), "frame 0 worker 0")
	want(t, s, "rest", "rest")
	want(t, s, out(udp(host, far, 6, 53)), "frame 1 worker 0")
	want(t, s, "tick 7", "tick 7")
	for _, line := range strange() {
		want(t, none, line, "what?")
		want(t, s, line, "what?")
	}
	want(t, none, "counts", "no plan")
	want(t, s, "tick 0", "tick 7")
	want(t, s, "counts", "came 2 full 0 sent 1 dropped 0 ended 0")
	want(t, s, "bindings", "udp 10.0.0.1:5 1000 opening 0")
	want(t, s, "ports", "icmp 1000-1009 pool", "tcp 1000-1009 pool", "udp 1000 bound", "udp 1001-1007 cache 0", "udp 1008-1009 pool")
	want(t, s, "free", "free")
	want(t, s, "bindings", "udp 10.0.0.1:5 1000 opening 0", "udp 10.0.0.1:6 1001 opening 7")
}

// TestPickOfNobody: with a plan it must be one of its workers, for no steps, too.
func TestPickOfNobody(t *testing.T) {
	s := planned(t, config(3, 10, 4, 4))
	for _, w := range []string{"0", "1", "2"} {
		want(t, s, "pick "+w+" 0", "picked")
		want(t, s, "pick "+w+" 10000", "picked")
	}
	for _, w := range []string{"3", "4", "63", "64", "1000", "999999999"} {
		want(t, s, "pick "+w+" 0", "what?")
		want(t, s, "pick "+w+" 1", "what?")
		want(t, s, "pick "+w+" 10000", "what?")
		want(t, s, "pick "+w+" 10001", "what?")
	}
	want(t, s, "plan workers=64 outer=192.0.2.1 ports=1-1024 buckets=1024 ring=256", "ok")
	want(t, s, "pick 63 1", "picked")
	want(t, s, "pick 64 1", "what?")
}

// TestNoBytes: a frame of none is told by no word.
func TestNoBytes(t *testing.T) {
	s := planned(t, config(3, 10, 4, 4))
	want(t, s, "out", "frame 0 worker 0")
	want(t, s, "in", "frame 1 worker 0")
	want(t, s, "out ", "what?")
	want(t, s, "in ", "what?")
	want(t, s, "rest", "rest")
	want(t, s, "outs", "0 0 drop 2", "0 1 drop 2")
}

// greatest is a datagram, without a sum, of as many bytes as a frame may have.
func greatest() []byte {
	const carried = api.MaxFrame - 20
	d := append([]byte{0, 5, 0, 53, carried >> 8, carried & 255, 0, 0}, bytes.Repeat([]byte{0xA5}, carried-8)...)
	return sample.Lay(api.Udp, host, far, d)
}

// TestTheMostBytes: 3000 signs of a frame as great as one may be.
func TestTheMostBytes(t *testing.T) {
	s := shell.New()
	want(t, s, small, "ok")
	most := greatest()
	if line := out(most); len(line) != len("out ")+3000 {
		t.Fatal(len(line))
	}
	want(t, s, out(most), "frame 0 worker 0")
	want(t, s, out(append(most, 0)), "what?")
	want(t, s, in(append(most, 0)), "what?")
	want(t, s, "in "+strings.Repeat("00", 1499), "frame 1 worker 0")
	want(t, s, "in "+strings.Repeat("00", 1500), "frame 2 worker 0")
	want(t, s, "in "+strings.Repeat("00", 1500)+"0", "what?")
	want(t, s, "rest", "rest")
	want(t, s, "bindings", "udp 10.0.0.1:5 1000 opening 0")
	if l := s.Line("outs"); len(l) != 3 || len(l[0]) != len("0 0 sent ")+3000 {
		t.Errorf("%.200q", l)
	}
}
