package track_test

import (
	"math"
	"math/rand"
	"testing"

	"fanlight/api"
	"fanlight/track"
)

const fin, syn, rst, psh, ack, urg = 1, 2, 4, 8, 16, 32

// protos is the three that are known, and others.
func protos() []int {
	return []int{api.Icmp, api.Tcp, api.Udp, 0, 2, 5, 7, 16, 18, 255, 256 + api.Tcp, 1<<32 + api.Tcp, -api.Tcp, -1, math.MinInt, math.MaxInt}
}

// beyond is numbers that count as Closed.
func beyond() []int {
	return []int{-1, -4, 5, 6, 7, 8, 255, 256, 257, 1 << 32, 1<<32 + 1, math.MinInt, math.MaxInt}
}

func known(proto int) bool { return proto == api.Icmp || proto == api.Tcp || proto == api.Udp }

func TestNumbers(t *testing.T) {
	got := []int{track.Opening, track.Open, track.HalfOut, track.HalfIn, track.Closed}
	for want, n := range got {
		if n != want {
			t.Errorf("state %d is %d", want, n)
		}
	}
}

// rows has, of each state, what is behind a segment that goes out, and one that comes in.
type rows [5][2]int

func wantRows(t *testing.T, flags int, want rows) {
	t.Helper()
	for state, r := range want {
		for k, out := range []bool{true, false} {
			if got := track.Next(api.Tcp, state, out, flags); got != r[k] {
				t.Errorf("Next of %d, out %v, flags %d: %d, not %d", state, out, flags, got, r[k])
			}
		}
	}
	for _, state := range beyond() {
		for k, out := range []bool{true, false} {
			if got := track.Next(api.Tcp, state, out, flags); got != want[track.Closed][k] {
				t.Errorf("Next of %d, out %v, flags %d: %d, not as of Closed", state, out, flags, got)
			}
		}
	}
}

// TestNextOfEachSegment has all of the flags that count, each with others that don't.
func TestNextOfEachSegment(t *testing.T) {
	closed := [2]int{4, 4}
	still := rows{{0, 0}, {1, 1}, {2, 2}, {3, 3}, closed}
	ended := rows{{2, 3}, {2, 3}, {2, 4}, {4, 3}, closed}
	opens := rows{{0, 0}, {1, 1}, {2, 2}, {3, 3}, {0, 4}}
	acked := rows{{0, 1}, {1, 1}, {2, 2}, {3, 3}, closed}
	reset := rows{closed, closed, closed, closed, closed}
	for _, more := range []int{0, psh, urg, psh | urg, 64, 128, 1 << 8, 1 << 9, 1 << 32, 1 << 62, math.MinInt} {
		wantRows(t, more, still)
		wantRows(t, more|fin, ended)
		wantRows(t, more|fin|ack, ended)
		wantRows(t, more|fin|syn, ended)
		wantRows(t, more|fin|syn|ack, ended)
		wantRows(t, more|syn, opens)
		wantRows(t, more|ack, acked)
		wantRows(t, more|syn|ack, acked)
		for _, with := range []int{0, fin, syn, ack, fin | syn, fin | ack, syn | ack, fin | syn | ack} {
			wantRows(t, more|rst|with, reset)
		}
	}
	wantRows(t, -1, reset)
}

func TestNextOfOthers(t *testing.T) {
	for _, p := range protos() {
		if p == api.Tcp {
			continue
		}
		for _, state := range append(beyond(), 0, 1, 2, 3, 4) {
			for _, flags := range []int{0, fin, syn, rst, ack, syn | ack, -1} {
				if track.Next(p, state, true, flags) != 0 || track.Next(p, state, false, flags) != 0 {
					t.Errorf("Next of protocol %d, state %d, flags %d isn't 0", p, state, flags)
				}
			}
		}
	}
}

func TestExample(t *testing.T) {
	state := 0
	for _, x := range []struct {
		out         bool
		flags, want int
	}{
		{true, syn, track.Opening}, {false, syn | ack, track.Open}, {true, ack, track.Open},
		{true, fin | ack, track.HalfOut}, {false, fin | ack, track.Closed},
	} {
		state = track.Next(api.Tcp, state, x.out, x.flags)
		if state != x.want {
			t.Errorf("%+v: %d", x, state)
		}
	}
}

// TestClosedTillASynGoesOut is P13.2, by connections of random segments.
func TestClosedTillASynGoesOut(t *testing.T) {
	rnd := rand.New(rand.NewSource(13))
	closed, opened := 0, 0
	for range 2000 {
		state, ended := 0, [2]bool{}
		for range 60 {
			out, flags := rnd.Intn(2) == 0, []int{0, ack, ack, syn, syn | ack, fin, fin | ack, rst, psh}[rnd.Intn(9)]
			was := ended[0] && ended[1]
			state = track.Next(api.Tcp, state, out, flags)
			switch {
			case flags == rst:
				ended = [2]bool{true, true}
			case flags&fin != 0 && out:
				ended[0] = true
			case flags&fin != 0:
				ended[1] = true
			case was && out && flags == syn:
				ended = [2]bool{}
				opened++
			}
			is := ended[0] && ended[1]
			if is != (state == track.Closed) {
				t.Fatalf("out %v, flags %d: state %d, but ends %v", out, flags, state, ended)
			}
			if is {
				closed++
			}
		}
	}
	if closed < 1000 || opened < 1000 {
		t.Error(closed, opened)
	}
}

func TestLife(t *testing.T) {
	for _, p := range protos() {
		for _, state := range append(beyond(), 0, 1, 2, 3, 4) {
			want := 0
			switch {
			case p == api.Udp:
				want = 120
			case p == api.Icmp:
				want = 60
			case p == api.Tcp && state == track.Open:
				want = 7440
			case p == api.Tcp:
				want = 240
			}
			if n := track.Life(p, state); n != want {
				t.Errorf("Life of protocol %d, state %d: %d", p, state, n)
			}
		}
	}
}

func TestRenews(t *testing.T) {
	for _, p := range protos() {
		if track.Renews(p, true) != known(p) || track.Renews(p, false) != (p == api.Tcp) {
			t.Errorf("Renews of protocol %d: %v, %v", p, track.Renews(p, true), track.Renews(p, false))
		}
	}
}

func TestBegins(t *testing.T) {
	for _, p := range protos() {
		for _, kind := range []int{0, 3, 5, 7, 8, 9, 11, 12, 256 + 8, -8, math.MinInt, math.MaxInt} {
			for flags := range 256 {
				for _, f := range []int{flags, flags | 1<<32, flags - 1<<20} {
					asks := flags&fin == 0 && flags&syn != 0 && flags&rst == 0 && flags&ack == 0
					want := p == api.Udp || p == api.Tcp && asks || p == api.Icmp && kind == 8
					if track.Begins(p, kind, f) != want {
						t.Fatalf("Begins of protocol %d, kind %d, flags %d isn't %v", p, kind, f, want)
					}
				}
			}
		}
	}
}

func TestText(t *testing.T) {
	for state, want := range []string{"opening", "open", "half out", "half in", "closed"} {
		if s := track.Text(state); s != want {
			t.Errorf("%d: %q", state, s)
		}
	}
	for _, state := range beyond() {
		if s := track.Text(state); s != "closed" {
			t.Errorf("%d: %q", state, s)
		}
	}
}
