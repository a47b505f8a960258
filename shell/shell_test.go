package shell_test

import (
	"slices"
	"strings"
	"testing"

	"fanlight/shell"
)

// known is lines that are right, one of each kind but plan.
func known() []string {
	return []string{"out 00", "in 00", "out", "in", "tick 5", "pick 0 3", "rest", "free", "outs", "bindings", "ports", "counts"}
}

// noPlans is texts that tell no plan.
func noPlans() []string {
	right := strings.TrimPrefix(small, "plan ")
	return []string{
		"", " ", "x", " " + right, right + " ", right + "\n", "plan " + right, "ok",
		strings.Replace(right, "workers=1", "workers=0", 1),
		strings.Replace(right, "workers=1", "workers=65", 1),
		strings.Replace(right, "workers=1", "workers=01", 1),
		strings.Replace(right, "192.0.2.1", "0.0.0.0", 1),
		strings.Replace(right, "192.0.2.1", "192.0.2", 1),
		strings.Replace(right, "1009", "999", 1),
		strings.Replace(right, "1009", "2024", 1),
		strings.Replace(right, "buckets=4", "buckets=5", 1),
		strings.Replace(right, "ring=4", "ring=257", 1),
		strings.Replace(right, " buckets", "  buckets", 1),
		strings.ToUpper(right),
	}
}

// TestExample is the chapter's.
func TestExample(t *testing.T) {
	s := shell.New()
	want(t, s, small, "ok")
	want(t, s, "ports", "icmp 1000-1009 pool", "tcp 1000-1009 pool", "udp 1000-1009 pool")
}

// TestWithoutAPlan: each line but plan tells so, and does nothing.
func TestWithoutAPlan(t *testing.T) {
	for _, s := range []*shell.Shell{shell.New(), {}} {
		for range 2 {
			for _, line := range known() {
				want(t, s, line, "no plan")
			}
			want(t, s, "tick 999999999", "no plan")
			// Any worker may be picked, as there is none.
			want(t, s, "pick 999999999 10000", "no plan")
			want(t, s, "pick 64 0", "no plan")
			want(t, s, "")
			for _, text := range noPlans() {
				want(t, s, "plan "+text, "no plan")
			}
		}
		want(t, s, small, "ok")
		want(t, s, "out 00", "frame 0 worker 0")
		want(t, s, "tick 0", "tick 0")
		want(t, s, "free", "free")
	}
}

// TestAnotherPlan: the Drive that was is gone, with all that was done to it.
func TestAnotherPlan(t *testing.T) {
	s := shell.New()
	for range 2 {
		want(t, s, small, "ok")
		want(t, s, out(udp(host, far, 5, 53)), "frame 0 worker 0")
		want(t, s, "tick 7", "tick 7")
		want(t, s, "free", "free")
		want(t, s, "free", "no")
		want(t, s, "bindings", "udp 10.0.0.1:5 1000 opening 7")
		want(t, s, "counts", "came 1 full 0 sent 1 dropped 0 ended 0")
	}
	want(t, s, "plan workers=64 outer=192.0.2.1 ports=1-1024 buckets=1024 ring=256", "ok")
	want(t, s, "pick 63 1", "picked")
	want(t, s, "bindings")
	want(t, s, "outs")
	want(t, s, "tick 0", "tick 0")
	want(t, s, "counts", "came 0 full 0 sent 0 dropped 0 ended 0")
	want(t, s, "ports", "icmp 1-1024 pool", "tcp 1-1024 pool", "udp 1-1024 pool")
}

// TestNoSuchPlan: the Drive that was stays as it was.
func TestNoSuchPlan(t *testing.T) {
	s := shell.New()
	want(t, s, small, "ok")
	want(t, s, out(udp(host, far, 5, 53)), "frame 0 worker 0")
	want(t, s, "tick 7", "tick 7")
	want(t, s, "free", "free")
	for _, text := range noPlans() {
		want(t, s, "plan "+text, "no plan")
		want(t, s, "tick 0", "tick 7")
		want(t, s, "free", "no")
		want(t, s, "bindings", "udp 10.0.0.1:5 1000 opening 7")
		want(t, s, "counts", "came 1 full 0 sent 1 dropped 0 ended 0")
	}
}

func TestNobody(t *testing.T) {
	var s *shell.Shell
	for _, line := range append(known(), small, "plan x", "plan", "x", "", " ") {
		want(t, s, line)
	}
}

// TestTwoShells: each has a plan of its own.
func TestTwoShells(t *testing.T) {
	a, b := shell.New(), shell.New()
	want(t, a, small, "ok")
	want(t, b, "counts", "no plan")
	want(t, b, small, "ok")
	want(t, a, "tick 5", "tick 5")
	want(t, a, "out 00", "frame 0 worker 0")
	want(t, b, "tick 0", "tick 0")
	want(t, b, "counts", "came 0 full 0 sent 0 dropped 0 ended 0")
}

// TestAnswersAreNew: who changes what was told changes nothing that is told later.
func TestAnswersAreNew(t *testing.T) {
	s := shell.New()
	want(t, s, small, "ok")
	for _, line := range append(known(), "plan x", "x", "bindings", "outs", "ports") {
		s.Line("free")
		l := s.Line(line)
		was := slices.Clone(l)
		for i := range l {
			l[i] = "changed"
		}
		_ = append(l, "more")
		if line == "ports" || line == "bindings" || line == "outs" || line == "counts" || line == "x" || line == "plan x" {
			want(t, s, line, was...)
		}
	}
}

func wantRun(t *testing.T, text string, told ...string) {
	t.Helper()
	if l := shell.Run(text); !slices.Equal(l, told) {
		t.Errorf("%.90q: %.900q, not %.900q", text, l, told)
	}
}

func TestRun(t *testing.T) {
	wantRun(t, "")
	wantRun(t, "\n")
	wantRun(t, "\n\n\n")
	wantRun(t, "x", "what?")
	wantRun(t, "rest\n", "no plan")
	wantRun(t, "\nrest\n\nx", "no plan", "what?")
	wantRun(t, "rest\r\nrest", "what?", "no plan")
	wantRun(t, "rest\x00rest\vrest\u2028rest", "what?")
	wantRun(t, small+"\nports", "ok", "icmp 1000-1009 pool", "tcp 1000-1009 pool", "udp 1000-1009 pool")
	wantRun(t, small+"\r\ncounts", "no plan", "no plan")
	wantRun(t, small+"\nin 00\n"+small+"\nin 00\nrest\nouts\nbindings\ncounts\n", "ok", "frame 0 worker 0", "ok", "frame 0 worker 0", "rest", "0 0 drop 2", "came 1 full 0 sent 0 dropped 1 ended 0")
	// Each Run is of a new Shell.
	wantRun(t, "counts", "no plan")
}

// TestSoManyLines: what stands behind the thousandth isn't done. Empty lines count, too.
func TestSoManyLines(t *testing.T) {
	for _, x := range []struct {
		empty, lines, told int
	}{
		{0, 999, 999}, {0, 1000, 1000}, {0, 1001, 1000}, {0, 5000, 1000},
		{1, 999, 999}, {1, 1000, 999}, {999, 1, 1}, {999, 2, 1}, {1000, 1, 0}, {1000, 2000, 0}, {5000, 1, 0},
	} {
		text := strings.Repeat("\n", x.empty) + strings.Repeat("counts\n", x.lines)
		wantRun(t, text, slices.Repeat([]string{"no plan"}, x.told)...)
		wantRun(t, strings.TrimSuffix(text, "\n"), slices.Repeat([]string{"no plan"}, x.told)...)
	}
	text := small + "\n" + strings.Repeat("tick 1\n", 997) + "counts\ntick 0\ntick 5\ncounts"
	l := shell.Run(text)
	if len(l) != 1000 || l[998] != "came 0 full 0 sent 0 dropped 0 ended 0" || l[999] != "tick 997" {
		t.Errorf("%d lines: %q", len(l), l[max(0, len(l)-4):])
	}
}
