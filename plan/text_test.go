package plan_test

import (
	"fmt"
	"math/rand"
	"regexp"
	"strconv"
	"strings"
	"testing"

	"fanlight/api"
	"fanlight/plan"
)

const line = "workers=2 outer=192.0.2.1 ports=1000-1999 buckets=64 ring=16"

const (
	fiveDigits  = `(0|[1-9][0-9]{0,4})`
	threeDigits = `(0|[1-9][0-9]{0,2})`
)

var planForm = regexp.MustCompile(`\Aworkers=` + fiveDigits + ` outer=([0-9.]*) ports=` + fiveDigits + `-` + fiveDigits + ` buckets=` + fiveDigits + ` ring=` + fiveDigits + `\z`)

var addressForm = regexp.MustCompile(`\A` + threeDigits + `\.` + threeDigits + `\.` + threeDigits + `\.` + threeDigits + `\z`)

func atoi(s string) int {
	n, err := strconv.Atoi(s)
	if err != nil {
		panic(err)
	}
	return n
}

// address tells by a pattern what ParseAddress is to tell.
func address(text string) (uint32, bool) {
	m := addressForm.FindStringSubmatch(text)
	if m == nil {
		return 0, false
	}
	a := 0
	for _, s := range m[1:] {
		if atoi(s) > 255 {
			return 0, false
		}
		a = a*256 + atoi(s)
	}
	return uint32(a), true
}

// parsed tells by a pattern what Parse is to tell.
func parsed(text string) (plan.Config, api.Errno) {
	m := planForm.FindStringSubmatch(text)
	if m == nil {
		return plan.Config{}, api.ErrForm
	}
	a, ok := address(m[2])
	if !ok {
		return plan.Config{}, api.ErrForm
	}
	c := plan.Config{Workers: atoi(m[1]), Outer: a, Lo: atoi(m[3]), Hi: atoi(m[4]), Buckets: atoi(m[5]), Ring: atoi(m[6])}
	if plan.Wrong(c) != "" {
		return plan.Config{}, api.ErrArg
	}
	return c, api.OK
}

func wantParsed(t *testing.T, text string) api.Errno {
	t.Helper()
	want, e := parsed(text)
	if c, f := plan.Parse(text); c != want || f != e {
		t.Errorf("Parse of %q: %+v %d, not %+v %d", text, c, f, want, e)
	}
	return e
}

func wantAddress(t *testing.T, text string) bool {
	t.Helper()
	want, is := address(text)
	if a, ok := plan.ParseAddress(text); a != want || ok != is {
		t.Errorf("ParseAddress of %q: %x %v, not %x %v", text, a, ok, want, is)
	}
	return is
}

func TestTextAndParseUndoEachOther(t *testing.T) {
	for _, c := range right() {
		want := fmt.Sprintf("workers=%d outer=%d.%d.%d.%d ports=%d-%d buckets=%d ring=%d",
			c.Workers, c.Outer>>24, c.Outer>>16&255, c.Outer>>8&255, c.Outer&255, c.Lo, c.Hi, c.Buckets, c.Ring)
		text := plan.Text(c)
		if text != want {
			t.Errorf("Text of %+v: %q, not %q", c, text, want)
		}
		if got, e := plan.Parse(text); e != api.OK || got != c {
			t.Errorf("Parse of %q: %+v %d", text, got, e)
		}
	}
}

func TestParseRefusesTheForm(t *testing.T) {
	for _, text := range []string{
		"", " ", "\n", line + " ", " " + line, line + "\n", line + "\x00", "workers=2", line + " " + line, line + line,
		strings.ToUpper(line), strings.ReplaceAll(line, " ", "  "), strings.ReplaceAll(line, " ", "\t"), strings.ReplaceAll(line, "=", " = "),
		strings.ReplaceAll(line, "=", ""), strings.ReplaceAll(line, "-", " - "), strings.ReplaceAll(line, "-", ""),
		"x" + line, "workers=2 " + line, strings.Replace(line, "workers", "worker", 1),
		"outer=192.0.2.1 workers=2 ports=1000-1999 buckets=64 ring=16",
		"workers=2 outer=192.0.2.1 ports=1000-1999 ring=16 buckets=64",
		"workers=2 outer=192.0.2.1 ports=1000-1999 buckets=64",
		"workers=2 outer=192.0.2.1 ports=1000-1999-2000 buckets=64 ring=16",
		"workers=2 outer=192.0.2.1 ports=1000 buckets=64 ring=16",
		"workers= outer= ports=- buckets= ring=",
		"workers=2 outer=3221225985 ports=1000-1999 buckets=64 ring=16",
	} {
		if wantParsed(t, text) != api.ErrForm {
			t.Errorf("%q has the form", text)
		}
	}
}

// TestEachNumber has each of the numbers told in ways that aren't right, and in such as are but that the Config is wrong.
func TestEachNumber(t *testing.T) {
	values := []string{"=2 ", "=1000-", "-1999 ", "=64 ", "=16"}
	for _, v := range values {
		first, last := v[:1], strings.TrimLeft(v[1:], "0123456789")
		for _, n := range []string{
			"", "02", "00", "000", "000000", "01000", "001999", "064", "016", "100000", "123456", "65536000", "18446744073709551617", strings.Repeat("1", 5000),
			"-2", "+2", " 2", "2 ", "2.", "2.0", "1e3", "0x10", "1_0", "a", "２", "٢", "²", "\xb2", "2\x00", "/", ":", "9:", "=",
		} {
			if wantParsed(t, strings.Replace(line, v, first+n+last, 1)) != api.ErrForm {
				t.Errorf("%q instead of %q has the form", n, v)
			}
		}
		for _, n := range []string{"0", "99999", "65536", "10000"} {
			if wantParsed(t, strings.Replace(line, v, first+n+last, 1)) != api.ErrArg {
				t.Errorf("%q instead of %q isn't wrong", n, v)
			}
		}
	}
	for _, a := range []string{"0.0.0.0", "255.255.255.255"} {
		if wantParsed(t, strings.Replace(line, "192.0.2.1", a, 1)) != api.ErrArg {
			t.Errorf("the address %q isn't wrong", a)
		}
	}
	if _, e := plan.Parse("workers=2 outer=192.0.2.1 ports=1-2 buckets=3 ring=1"); e != api.ErrArg {
		t.Error(e)
	}
}

// near is a text that was changed here and there.
func near(r *rand.Rand, text, signs string) string {
	b := []byte(text)
	for range 1 + r.Intn(3) {
		at := r.Intn(len(b) + 1)
		sign := signs[r.Intn(len(signs))]
		switch r.Intn(3) {
		case 0:
			b = append(b[:at], append([]byte{sign}, b[at:]...)...)
		case 1:
			if at < len(b) {
				b[at] = sign
			}
		case 2:
			if at < len(b) {
				b = append(b[:at], b[at+1:]...)
			}
		}
	}
	return string(b)
}

func TestParseOfTextsThatAreNear(t *testing.T) {
	r := rand.New(rand.NewSource(6))
	all := right()
	told := map[api.Errno]int{}
	for range 100000 {
		text := plan.Text(all[r.Intn(len(all))])
		told[wantParsed(t, near(r, text, "0123456789012345678901234567890123456789.-= a\x00\xff"))]++
		if t.Failed() {
			return
		}
	}
	for _, e := range []api.Errno{api.OK, api.ErrForm, api.ErrArg} {
		if told[e] < 1000 {
			t.Errorf("error %d was hardly told: %v", e, told)
		}
	}
}

func TestAddress(t *testing.T) {
	for a, want := range map[uint32]string{
		0: "0.0.0.0", 1: "0.0.0.1", 0xFF: "0.0.0.255", 0x100: "0.0.1.0", 0x0A000001: "10.0.0.1", 0xC0000201: "192.0.2.1",
		0x01020304: "1.2.3.4", 0x80000000: "128.0.0.0", 0xFFFFFFFE: "255.255.255.254", 0xFFFFFFFF: "255.255.255.255", 0x64C80A63: "100.200.10.99",
	} {
		if s := plan.Address(a); s != want {
			t.Errorf("%x: %q", a, s)
		}
		if b, ok := plan.ParseAddress(want); !ok || b != a {
			t.Errorf("%q: %x %v", want, b, ok)
		}
	}
}

func TestEachByteOfAnAddress(t *testing.T) {
	for at := range 4 {
		for n := range 1100 {
			l := []string{"1", "2", "3", "4"}
			for _, form := range []string{"%d", "%02d", "%03d", "%04d", "+%d", "-%d", " %d", "%d "} {
				l[at] = fmt.Sprintf(form, n)
				wantAddress(t, strings.Join(l, "."))
			}
		}
	}
}

func TestAddressesThatAreNone(t *testing.T) {
	for _, text := range []string{
		"", ".", "...", "....", "1", "1.2.3", "1.2.3.", ".1.2.3", "1..3.4", "1.2.3.4.", ".1.2.3.4", "1.2.3.4.5", "1.2.3.4.5.6", "1.2.3.256", "256.2.3.4",
		"1.2.3.999", "1.2.3.1000", "1.2.3.00", "01.2.3.4", "1.2.3.04", "1.2.3.4 ", " 1.2.3.4", "1.2.3.4\n", "1,2,3,4", "1.2.3.a", "0x1.2.3.4", "1.2.3.-4", "1.2.3.+4",
		"1.2.3.４", "1.2.3.\xb2", "1.2.3.4294967297", "16909060", strings.Repeat(".", 100000), strings.Repeat("1.", 100000), strings.Repeat("1", 100000),
	} {
		if wantAddress(t, text) {
			t.Errorf("%q is one", text)
		}
	}
}

func TestAddressesThatAreNear(t *testing.T) {
	r := rand.New(rand.NewSource(7))
	for range 50000 {
		a := r.Uint32() >> (r.Intn(4) * 8)
		if b, ok := plan.ParseAddress(plan.Address(a)); !ok || b != a {
			t.Fatalf("%x: %x %v", a, b, ok)
		}
		wantAddress(t, near(r, plan.Address(a), "0123456789.. x"))
		if t.Failed() {
			return
		}
	}
}
