package audit_test

import (
	"math"
	"slices"
	"testing"

	"fanlight/audit"
	"fanlight/nat"
)

func wantText(t *testing.T, rows []audit.Row, want ...string) {
	t.Helper()
	if l := audit.Text(rows); !slices.Equal(l, want) {
		t.Errorf("%+v: %q, not %q", rows, l, want)
	}
}

func TestTextOfATranslator(t *testing.T) {
	n := newNat(t, config(1, 1000, 64))
	wantText(t, audit.Look(n), "icmp 1000-1999 pool", "tcp 1000-1999 pool", "udp 1000-1999 pool")
	n.Begin(0, true, udp(5, 7), 3)
	finish(t, n, 0)
	wantText(t, audit.Look(n), "icmp 1000-1999 pool", "tcp 1000-1999 pool", "udp 1000 bound", "udp 1001-1007 cache 0", "udp 1008-1999 pool")
	n.Sweep(0, 123)
	finish(t, n, 0)
	wantText(t, audit.Look(n), "icmp 1000-1999 pool", "tcp 1000-1999 pool", "udp 1000 retired 0", "udp 1001-1007 cache 0", "udp 1008-1999 pool")
	n.Sweep(0, 123)
	finish(t, n, 0)
	wantText(t, audit.Look(n), "icmp 1000-1999 pool", "tcp 1000-1999 pool", "udp 1000-1007 cache 0", "udp 1008-1999 pool")
	wantText(t, nil)
	wantText(t, []audit.Row{})
}

func TestTextOfARow(t *testing.T) {
	for want, r := range map[string]audit.Row{
		"icmp 1 pool":        row(1, 1, claim(nat.Pooled, -1)),
		"tcp 65535 cache 63": row(6, 65535, claim(nat.Cached, 63)),
		"udp 0 bound":        row(17, 0, claim(nat.Bound, -1)),
		"udp 7 retired 0":    row(17, 7, claim(nat.Retired, 0)),
		"47 -7 nobody":       row(47, -7),
		"-1 5 kind 0":        row(-1, 5, claim(0, 3)),
		"0 5 kind -5":        row(0, 5, claim(-5, 3)),
		"tcp 5 kind 5 and cache -2 and retired -9":                           row(6, 5, claim(5, 1), claim(nat.Cached, -2), claim(nat.Retired, -9)),
		"tcp 5 pool and pool":                                                row(6, 5, claim(nat.Pooled, 7), claim(nat.Pooled, 7)),
		"9223372036854775807 -9223372036854775808 cache 9223372036854775807": row(math.MaxInt, math.MinInt, claim(nat.Cached, math.MaxInt)),
	} {
		wantText(t, []audit.Row{r}, want)
	}
}

// TestWhatIsInOneLine: ports that go on one by one, of one protocol, whose claims are the same.
func TestWhatIsInOneLine(t *testing.T) {
	pool, cached := claim(nat.Pooled, -1), claim(nat.Cached, 1)
	of := func(l ...audit.Row) []audit.Row { return l }
	wantText(t, of(row(6, 1, pool), row(6, 2, pool), row(6, 3, pool)), "tcp 1-3 pool")
	wantText(t, of(row(6, 1, pool), row(6, 2, pool), row(17, 3, pool)), "tcp 1-2 pool", "udp 3 pool")
	wantText(t, of(row(6, 1, pool), row(6, 3, pool), row(6, 4, pool)), "tcp 1 pool", "tcp 3-4 pool")
	wantText(t, of(row(6, 2, pool), row(6, 1, pool)), "tcp 2 pool", "tcp 1 pool")
	wantText(t, of(row(6, 2, pool), row(6, 2, pool)), "tcp 2 pool", "tcp 2 pool")
	wantText(t, of(row(6, 1, pool), row(6, 2, cached), row(6, 3, pool)), "tcp 1 pool", "tcp 2 cache 1", "tcp 3 pool")
	wantText(t, of(row(6, 1, cached), row(6, 2, claim(nat.Cached, 2))), "tcp 1 cache 1", "tcp 2 cache 2")
	wantText(t, of(row(6, 1, pool), row(6, 2, claim(nat.Pooled, 0))), "tcp 1 pool", "tcp 2 pool")
	wantText(t, of(row(6, 1, pool, cached), row(6, 2, pool, cached)), "tcp 1-2 pool and cache 1")
	wantText(t, of(row(6, 1, pool, cached), row(6, 2, cached, pool)), "tcp 1 pool and cache 1", "tcp 2 cache 1 and pool")
	wantText(t, of(row(6, 1, pool), row(6, 2, pool, pool)), "tcp 1 pool", "tcp 2 pool and pool")
	none := row(6, 2)
	none.Claims = []nat.Claim{}
	wantText(t, of(row(6, 1), none, row(6, 3)), "tcp 1-3 nobody")
	wantText(t, of(row(6, -2, pool), row(6, -1, pool), row(6, 0, pool), row(6, 1, pool)), "tcp -2-1 pool")
	wantText(t, of(row(6, -3), row(6, -2)), "tcp -3--2 nobody")
	wantText(t, of(row(6, math.MaxInt), row(6, math.MinInt)), "tcp 9223372036854775807 nobody", "tcp -9223372036854775808 nobody")
}
