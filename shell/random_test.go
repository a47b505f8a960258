package shell_test

import (
	"encoding/hex"
	"fmt"
	"math/rand"
	"regexp"
	"slices"
	"strconv"
	"strings"
	"testing"

	"fanlight/api"
	"fanlight/audit"
	"fanlight/drive"
	"fanlight/plan"
	"fanlight/sample"
	"fanlight/shell"
	"fanlight/track"
)

// plain is a Drive to which the same is done as to a Shell, and what the chapter says is told of it.
type plain struct{ d *drive.Drive }

// The lines that may be, each with its words.
var (
	aFrame = regexp.MustCompile(`\A(out|in)(?: ((?:[0-9a-f]{2})+))?\z`)
	aTick  = regexp.MustCompile(`\Atick (0|[1-9][0-9]{0,8})\z`)
	aPick  = regexp.MustCompile(`\Apick (0|[1-9][0-9]{0,8}) (0|[1-9][0-9]{0,3}|10000)\z`)
	aWord  = regexp.MustCompile(`\A(rest|free|outs|bindings|ports|counts)\z`)
	aPlan  = regexp.MustCompile(`(?s)\Aplan (.*)\z`)
)

// line is what is told of a line.
func (p *plain) line(text string) []string {
	if m := aPlan.FindStringSubmatch(text); m != nil {
		c, e := plan.Parse(m[1])
		if e != api.OK {
			return []string{"no plan"}
		}
		p.d, _ = drive.New(c)
		return []string{"ok"}
	}
	frame, tick, pick, word := aFrame.FindStringSubmatch(text), aTick.FindStringSubmatch(text), aPick.FindStringSubmatch(text), aWord.MatchString(text)
	if frame != nil && len(frame[2]) > 3000 {
		frame = nil
	}
	switch {
	case text == "":
		return nil
	case frame == nil && tick == nil && pick == nil && !word:
		return []string{"what?"}
	case p.d == nil:
		return []string{"no plan"}
	case frame != nil:
		return []string{p.frame(frame[1] == "out", frame[2])}
	case tick != nil:
		by, _ := strconv.Atoi(tick[1])
		if p.d.Tick(by) != api.OK {
			return []string{"no tick"}
		}
		return []string{fmt.Sprintf("tick %d", p.d.Now())}
	case pick != nil:
		return []string{p.pick(pick[1], pick[2])}
	}
	return p.word(text)
}

func (p *plain) frame(out bool, word string) string {
	f, err := hex.DecodeString(word)
	if err != nil {
		panic(err)
	}
	if n, w, e := p.d.Put(out, f); e == api.OK {
		return fmt.Sprintf("frame %d worker %d", n, w)
	} else {
		return fmt.Sprintf("full %d", w)
	}
}

func (p *plain) pick(worker, steps string) string {
	w, _ := strconv.Atoi(worker)
	n, _ := strconv.Atoi(steps)
	if w >= p.d.Nat().Config().Workers {
		return "what?"
	}
	for range n {
		p.d.Pick(w)
	}
	return "picked"
}

func (p *plain) word(text string) (l []string) {
	switch text {
	case "rest":
		p.d.Rest()
		return []string{"rest"}
	case "free":
		if p.d.Free() {
			return []string{"free"}
		}
		return []string{"no"}
	case "ports":
		return audit.Text(audit.Look(p.d.Nat()))
	case "counts":
		c := p.d.Counts()
		return []string{fmt.Sprintf("came %d full %d sent %d dropped %d ended %d", c.Came, c.Full, c.Sent, c.Dropped, c.Ended)}
	case "outs":
		for w := range p.d.Nat().Config().Workers {
			for _, o := range p.d.Outs(w) {
				if o.Answer.Err == api.OK {
					l = append(l, fmt.Sprintf("%d %d sent %x", w, o.Number, o.Answer.Frame))
				} else {
					l = append(l, fmt.Sprintf("%d %d drop %d", w, o.Number, o.Answer.Err))
				}
			}
		}
	case "bindings":
		for _, b := range p.d.Nat().Bindings() {
			proto := [...]string{api.Icmp: "icmp", api.Tcp: "tcp", api.Udp: "udp"}[b.Flow.Proto]
			a := b.Flow.Addr
			l = append(l, fmt.Sprintf("%s %d.%d.%d.%d:%d %d %s %d", proto, a>>24, a>>16&255, a>>8&255, a&255, b.Flow.Port, b.Port, track.Text(b.Track), b.Seen))
		}
	}
	return l
}

func one[T any](rnd *rand.Rand, of ...T) T { return of[rnd.Intn(len(of))] }

// someFrame is one that goes out or comes in, so that many find a binding; some can't be got.
func someFrame(rnd *rand.Rand, out bool) []byte {
	src, dst := uint32(host+rnd.Intn(2)), uint32(far+rnd.Intn(4))
	from, to := uint16(5+rnd.Intn(3)), one[uint16](rnd, 53, 80)
	if !out {
		src, dst, from, to = dst, one[uint32](rnd, outer, outer, outer, host), to, uint16(1000+rnd.Intn(6))
	}
	var f []byte
	switch rnd.Intn(5) {
	case 0:
		f = echo(!out, src, dst, max(from, to)&1023)
	case 1, 2:
		f = tcp(src, dst, from, to, one(rnd, syn, syn, syn, syn|ack, ack, fin|ack, rst))
	default:
		f = udp(src, dst, from, to)
	}
	switch rnd.Intn(12) {
	case 0:
		f[rnd.Intn(len(f))] ^= 1 << rnd.Intn(8)
	case 1:
		f = sample.Fault(dst+1, src, sample.Udp(dst, src, to, from))
	case 2:
		f = f[:rnd.Intn(len(f))]
	}
	return f
}

func somePlan(rnd *rand.Rand) string {
	c := config(1+rnd.Intn(4), 1+rnd.Intn(40), 2<<rnd.Intn(4), 1+rnd.Intn(8))
	text := "plan " + plan.Text(c)
	if rnd.Intn(4) == 0 {
		text = spoilt(rnd, text)
	}
	return text
}

// someLine is one that is right, or seems so.
func someLine(rnd *rand.Rand) string {
	switch rnd.Intn(24) {
	case 0, 1, 2, 3, 4, 5, 6:
		return strings.TrimSuffix(out(someFrame(rnd, true)), " ")
	case 7, 8, 9:
		return strings.TrimSuffix(in(someFrame(rnd, false)), " ")
	case 10, 11:
		return "tick " + one(rnd, "0", "1", "5", "30", "60", "120", "240")
	case 12, 13, 14:
		return fmt.Sprintf("pick %d %d", rnd.Intn(5), one(rnd, 0, 1, 2, 5, 20, rnd.Intn(100), rnd.Intn(400)))
	case 15, 16:
		return "rest"
	case 17:
		return "outs"
	case 18:
		return "bindings"
	case 19, 20:
		return "ports"
	case 21:
		return "counts"
	case 22:
		if rnd.Intn(8) == 0 {
			return somePlan(rnd)
		}
		return one(rnd, "tick 999999999", "pick 999999999 1", "pick 0 10001", "pick 0 10000", "")
	}
	return spoilt(rnd, one(rnd, "rest", "outs", "tick 5", "tick 10", "pick 0 30", "out 0f", "in", "in a0", "counts", "pick 1 9999", "tick 99999999", "plan", "plan x"))
}

// spoilt is a line with a sign or two that are others, or more, or gone.
func spoilt(rnd *rand.Rand, text string) string {
	b := []byte(text)
	for range 1 + rnd.Intn(2) {
		k := rnd.Intn(len(b) + 1)
		sign := " 0019afg-+ \n\tZ"[rnd.Intn(14)]
		switch {
		case k < len(b) && rnd.Intn(3) == 0:
			b = slices.Delete(b, k, k+1)
		case k < len(b) && rnd.Intn(2) == 0:
			b[k] = sign
		default:
			b = slices.Insert(b, k, sign)
		}
	}
	return string(b)
}

// TestAsOfADrive is P23.2: whatever lines come, what is told is as of a Drive to which the same is done. free is asked for when a worker is alone, or when none has anything to do: else what they do hangs on turns.
func TestAsOfADrive(t *testing.T) {
	t.Parallel()
	rnd := rand.New(rand.NewSource(23))
	times := map[string]int{}
	for range 400 {
		s, p := shell.New(), &plain{}
		ask := func(text string) {
			t.Helper()
			got, told := s.Line(text), p.line(text)
			if !slices.Equal(got, told) {
				t.Fatalf("%q: %q, not %q", text, got, told)
			}
			for _, l := range told {
				times[kindOf(l)]++
			}
		}
		if rnd.Intn(8) > 0 {
			ask(somePlan(rnd))
		}
		if rnd.Intn(8) == 0 {
			// Of the last ticks that there are.
			for range 4 {
				ask("tick 999999999")
			}
			ask("tick 294966800")
		}
		for range 150 {
			text := someLine(rnd)
			ask(text)
			alone := p.d != nil && p.d.Nat().Config().Workers == 1
			if text == "rest" && rnd.Intn(4) == 0 || alone && rnd.Intn(50) == 0 {
				ask("free")
			}
		}
		for _, text := range []string{"rest", "outs", "bindings", "ports", "counts", "free", "free", "tick 0"} {
			ask(text)
		}
	}
	t.Log(times)
	for _, kind := range []string{"ok", "no plan", "frame", "full", "tick", "no tick", "picked", "rest", "free", "no", "sent", "drop", "icmp", "tcp", "udp", "came", "what?"} {
		if times[kind] < 30 {
			t.Errorf("%q is told %d times", kind, times[kind])
		}
	}
}

// kindOf is which kind of line was told.
func kindOf(told string) string {
	w := strings.Fields(told)
	switch {
	case told == "no plan" || told == "no tick":
		return told
	case len(w) > 2 && (w[2] == "sent" || w[2] == "drop"):
		return w[2]
	}
	return w[0]
}

// TestRunIsLineByLine: what Run tells of a text is what a new Shell tells of its lines.
func TestRunIsLineByLine(t *testing.T) {
	t.Parallel()
	rnd := rand.New(rand.NewSource(231))
	for range 100 {
		lines := []string{somePlan(rnd)}
		for range rnd.Intn(1500) {
			lines = append(lines, strings.ReplaceAll(someLine(rnd), "\n", "."))
		}
		s := shell.New()
		var told []string
		for _, l := range lines[:min(len(lines), 1000)] {
			told = append(told, s.Line(l)...)
		}
		if l := shell.Run(strings.Join(lines, "\n")); !slices.Equal(l, told) {
			t.Fatalf("%d lines: %.2000q, not %.2000q", len(lines), l, told)
		}
	}
}

// TestAnyText: of any bytes there is an answer (P1).
func TestAnyText(t *testing.T) {
	t.Parallel()
	rnd := rand.New(rand.NewSource(232))
	s, p := shell.New(), &plain{}
	for k := range 20000 {
		b := make([]byte, rnd.Intn(30))
		for i := range b {
			b[i] = byte(rnd.Intn(256))
		}
		text := string(b)
		if k%2 == 0 {
			text = one(rnd, "plan", "out", "in", "tick", "pick", "rest", "free", "outs", "bindings", "ports", "counts") + one(rnd, "", " ", "\n") + text
		}
		if k == 10000 {
			text = small
		}
		if got, told := s.Line(text), p.line(text); !slices.Equal(got, told) {
			t.Fatalf("%q: %q, not %q", text, got, told)
		}
		shell.Run(text)
	}
}

// TestAllAtOneTime: of free, while all have much to do, as much is told as doesn't hang on turns: each frame is done once, by its worker, in order, and each port is one's.
func TestAllAtOneTime(t *testing.T) {
	t.Parallel()
	rnd := rand.New(rand.NewSource(233))
	for range 60 {
		c := config(2+rnd.Intn(4), 1+rnd.Intn(60), 2<<rnd.Intn(4), 64)
		s := planned(t, c)
		by := map[string]int{} // how many are each worker's
		came := 0
		for range 150 {
			var told string
			if rnd.Intn(3) > 0 {
				told = s.Line(out(udp(uint32(host+rnd.Intn(9)), uint32(far+rnd.Intn(20)), 5, 53)))[0]
			} else {
				told = s.Line(in(udp(uint32(far+rnd.Intn(20)), outer, 53, uint16(1000+rnd.Intn(60)))))[0]
			}
			if w, ok := strings.CutPrefix(told, fmt.Sprintf("frame %d worker ", came)); ok {
				by[w]++
				came++
			}
		}
		want(t, s, "free", "free")
		wantInOrder(t, s.Line("outs"), by)
		wantAllPorts(t, s.Line("ports"), c)
		want(t, s, "free", "no")
	}
}

// wantInOrder wants each worker to have so many outs, with rising numbers.
func wantInOrder(t *testing.T, outs []string, by map[string]int) {
	t.Helper()
	done, last := map[string]int{}, map[string]int{}
	ahead := ""
	for _, o := range outs {
		w := strings.Fields(o)
		n, err := strconv.Atoi(w[1])
		if err != nil || w[0] < ahead || done[w[0]] > 0 && n <= last[w[0]] {
			t.Fatalf("%q: %q", o, outs)
		}
		ahead = w[0]
		done[w[0]]++
		last[w[0]] = n
	}
	for w, n := range by {
		if done[w] != n {
			t.Fatalf("worker %s did %d, not %d", w, done[w], n)
		}
	}
}

// wantAllPorts wants each port of each protocol to be told once, as just one's.
func wantAllPorts(t *testing.T, lines []string, c plan.Config) {
	t.Helper()
	sum := 0
	for _, l := range lines {
		w := strings.Fields(l)
		first, last, several := strings.Cut(w[1], "-")
		a, _ := strconv.Atoi(first)
		b, _ := strconv.Atoi(last)
		if !several {
			b = a
		}
		sum += b - a + 1
		if strings.Contains(l, " and ") || strings.Contains(l, "nobody") {
			t.Fatal(l)
		}
	}
	if sum != plan.Places(c) {
		t.Fatalf("%d ports: %q", sum, lines)
	}
}
