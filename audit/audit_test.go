package audit_test

import (
	"math"
	"math/rand"
	"slices"
	"testing"

	"fanlight/api"
	"fanlight/audit"
	"fanlight/head"
	"fanlight/nat"
	"fanlight/part"
	"fanlight/plan"
)

const (
	outer = 0xC0000201
	far   = 0x08080808
)

func config(workers, ports, buckets int) plan.Config {
	return plan.Config{Workers: workers, Outer: outer, Lo: 1000, Hi: 999 + ports, Buckets: buckets, Ring: 4}
}

func newNat(t *testing.T, c plan.Config) *nat.Nat {
	t.Helper()
	n, e := nat.New(c)
	if e != api.OK {
		t.Fatalf("New of %+v: %d", c, e)
	}
	return n
}

func udp(src uint32, from uint16) []byte {
	f, _ := head.Put(head.Head{Ttl: 9, Proto: api.Udp, Src: src, Dst: far}, part.Udp(src, far, from, 53, nil))
	return f
}

func finish(t *testing.T, n *nat.Nat, w int) {
	t.Helper()
	for range 5000 {
		if n.Do(w) {
			return
		}
	}
	t.Fatal("it has no end")
}

func claim(kind, worker int) nat.Claim { return nat.Claim{Kind: kind, Worker: worker} }

func row(proto, port int, l ...nat.Claim) audit.Row {
	return audit.Row{Proto: proto, Port: port, Claims: l}
}

// wantRows holds rows against a translator's own answers.
func wantRows(t *testing.T, n *nat.Nat, rows []audit.Row) {
	t.Helper()
	c := n.Config()
	if len(rows) != plan.Places(c) {
		t.Fatalf("so many rows: %d", len(rows))
	}
	for i, r := range rows {
		proto, port := plan.Port(c, i)
		if r.Proto != proto || r.Port != port || !slices.Equal(r.Claims, n.Claims(proto, port)) {
			t.Fatalf("row %d: %+v", i, r)
		}
	}
}

func TestLook(t *testing.T) {
	n := newNat(t, config(2, 40, 4))
	wantRows(t, n, audit.Look(n))
	n.Begin(1, true, udp(5, 7), 3)
	finish(t, n, 1)
	rows := audit.Look(n)
	wantRows(t, n, rows)
	if s := audit.Count(rows); s != (audit.Sum{Pooled: 112, Cached: 7, Bound: 1}) {
		t.Errorf("%+v", s)
	}
	for _, n := range []*nat.Nat{nil, {}} {
		if l := audit.Look(n); len(l) != 0 {
			t.Errorf("%+v", l)
		}
	}
}

func TestFaults(t *testing.T) {
	for _, x := range []struct {
		kind int
		row  audit.Row
	}{
		{0, row(6, 5, claim(nat.Pooled, -1))},
		{0, row(6, 5, claim(nat.Cached, 0))},
		{0, row(6, 5, claim(nat.Bound, -1))},
		{0, row(6, 5, claim(nat.Retired, 63))},
		{0, row(6, 5, claim(nat.Pooled, 99))},
		{audit.Nobodys, row(6, 5)},
		{audit.Nobodys, row(-6, math.MinInt)},
		{audit.Several, row(6, 5, claim(nat.Cached, 0), claim(nat.Cached, 1))},
		{audit.Several, row(6, 5, claim(nat.Bound, -1), claim(nat.Bound, -1))},
		{audit.Several, row(6, 5, claim(0, 0), claim(9, 0), claim(1, -1))},
		{audit.Odd, row(6, 5, claim(0, -1))},
		{audit.Odd, row(6, 5, claim(5, 1))},
		{audit.Odd, row(6, 5, claim(math.MinInt, 1))},
		{audit.Odd, row(6, 5, claim(math.MaxInt, 1))},
	} {
		var want []audit.Fault
		if x.kind != 0 {
			want = []audit.Fault{{Proto: x.row.Proto, Port: x.row.Port, Kind: x.kind}}
		}
		if l := audit.Faults([]audit.Row{x.row}); !slices.Equal(l, want) {
			t.Errorf("%+v: %+v", x.row, l)
		}
	}
	rows := []audit.Row{row(17, 3), row(6, 1, claim(1, -1)), row(6, 2, claim(7, 0)), row(6, 2, claim(2, 0), claim(2, 1)), row(17, 3)}
	want := []audit.Fault{{17, 3, audit.Nobodys}, {6, 2, audit.Odd}, {6, 2, audit.Several}, {17, 3, audit.Nobodys}}
	if l := audit.Faults(rows); !slices.Equal(l, want) {
		t.Errorf("%+v", l)
	}
	if l := audit.Faults(nil); len(l) != 0 {
		t.Errorf("%+v", l)
	}
}

func TestCount(t *testing.T) {
	rows := []audit.Row{
		row(6, 1, claim(nat.Pooled, -1)),
		row(6, 2, claim(nat.Cached, 0), claim(nat.Cached, 1), claim(nat.Bound, -1)),
		row(6, 3),
		row(17, 3, claim(nat.Retired, 1), claim(nat.Retired, 1), claim(0, 1), claim(5, -1)),
		row(99, -3, claim(nat.Bound, -1), claim(nat.Pooled, 1)),
	}
	if s := audit.Count(rows); s != (audit.Sum{Pooled: 2, Cached: 2, Bound: 2, Retired: 2}) {
		t.Errorf("%+v", s)
	}
	for w, want := range map[int]audit.Sum{
		-1:          {Pooled: 1, Bound: 2},
		0:           {Cached: 1},
		1:           {Pooled: 1, Cached: 1, Retired: 2},
		2:           {},
		math.MaxInt: {},
	} {
		if s := audit.Of(rows, w); s != want {
			t.Errorf("worker %d: %+v", w, s)
		}
	}
	if audit.Count(nil) != (audit.Sum{}) || audit.Of(nil, 0) != (audit.Sum{}) {
		t.Error("of no rows there is something")
	}
}

// TestByWhateverTurns is P17.2.
func TestByWhateverTurns(t *testing.T) {
	rnd := rand.New(rand.NewSource(17))
	var most audit.Sum
	for range 60 {
		c := config(1+rnd.Intn(4), 1+rnd.Intn(30), 2)
		n := newNat(t, c)
		for k := range 1000 {
			w, tick := rnd.Intn(c.Workers), k/2+rnd.Intn(20)
			switch {
			case n.Busy(w):
				n.Do(w)
			case rnd.Intn(4) == 0:
				n.Sweep(w, tick)
			default:
				n.Begin(w, true, udp(5, uint16(rnd.Intn(20))), tick)
			}
			rows := audit.Look(n)
			s := audit.Count(rows)
			if l := audit.Faults(rows); len(l) != 0 || s.Pooled+s.Cached+s.Bound+s.Retired != plan.Places(c) {
				t.Fatalf("%+v, %+v", l, s)
			}
			most = audit.Sum{Pooled: max(most.Pooled, s.Pooled), Cached: max(most.Cached, s.Cached), Bound: max(most.Bound, s.Bound), Retired: max(most.Retired, s.Retired)}
		}
	}
	if most.Cached < 9 || most.Bound < 8 || most.Retired < 2 {
		t.Errorf("hardly anything happened: %+v", most)
	}
}

// TestNothingIsKept is P17.3.
func TestNothingIsKept(t *testing.T) {
	n := newNat(t, config(1, 3, 2))
	rows := audit.Look(n)
	for _, r := range rows {
		r.Claims[0] = claim(9, 9)
		_ = append(r.Claims, claim(8, 8))
	}
	for _, r := range rows {
		if len(r.Claims) != 1 || r.Claims[0] != claim(9, 9) {
			t.Errorf("rows share what they claim: %+v", r)
		}
	}
	wantRows(t, n, audit.Look(n))
	spare := make([]nat.Claim, 1, 4)
	spare[0] = claim(nat.Cached, 1)
	given := make([]audit.Row, 2, 4)
	given[0], given[1] = row(6, 1, spare...), row(6, 2, spare...)
	faults, text := audit.Faults(given), audit.Text(given)
	audit.Count(given)
	audit.Of(given, 1)
	if !slices.Equal(spare[:4], []nat.Claim{claim(nat.Cached, 1), {}, {}, {}}) || given[0].Port != 1 || given[1].Port != 2 || given[:3][2].Port != 0 {
		t.Errorf("what was handed in is changed: %+v, %+v", given, spare[:4])
	}
	given[1].Proto = 17
	if len(faults) != 0 || !slices.Equal(text, []string{"tcp 1-2 cache 1"}) {
		t.Errorf("%+v, %q", faults, text)
	}
}
