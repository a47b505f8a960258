package shell_test

import (
	"encoding/hex"
	"slices"
	"testing"

	"fanlight/api"
	"fanlight/head"
	"fanlight/part"
	"fanlight/plan"
	"fanlight/sample"
	"fanlight/shell"
	"fanlight/spread"
)

const (
	outer = 0xC0000201
	host  = 0x0A000001
	far   = 0x08080808
)

const fin, syn, rst, ack = 1, 2, 4, 16

var udp, tcp, echo = sample.Udp, sample.Tcp, sample.Echo

const small = "plan workers=1 outer=192.0.2.1 ports=1000-1009 buckets=4 ring=4"

// planned is a Shell with the plan of a Config.
func planned(t *testing.T, c plan.Config) *shell.Shell {
	t.Helper()
	s := shell.New()
	want(t, s, "plan "+plan.Text(c), "ok")
	return s
}

// config has so many ports, from 1000 on.
func config(workers, ports, buckets, ring int) plan.Config {
	return plan.Config{Workers: workers, Outer: outer, Lo: 1000, Hi: 999 + ports, Buckets: buckets, Ring: ring}
}

// want wants a line to tell just so much.
func want(t *testing.T, s *shell.Shell, line string, told ...string) {
	t.Helper()
	if l := s.Line(line); !slices.Equal(l, told) {
		t.Fatalf("%.90q: %q, not %q", line, l, told)
	}
}

// out, in: the line by which a frame comes.
func out(frame []byte) string { return "out " + hex.EncodeToString(frame) }

func in(frame []byte) string { return "in " + hex.EncodeToString(frame) }

// farOf is the first far end of UDP's port 53 that is a worker's work.
func farOf(workers, w int) uint32 {
	addr := uint32(far)
	for spread.Worker(workers, true, udp(host, addr, 5, 53)) != w {
		addr++
	}
	return addr
}

// portOf is the port that a frame goes out by, -1 if it can't be got.
func portOf(frame []byte) int {
	h, e := head.Get(frame)
	if e != api.OK {
		return -1
	}
	p, e := part.Get(h, frame)
	if e != api.OK {
		return -1
	}
	return int(p.SrcPort)
}
