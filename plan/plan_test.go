package plan_test

import (
	"math"
	"math/rand"
	"testing"

	"fanlight/api"
	"fanlight/plan"
	"fanlight/pool"
)

func sample() plan.Config {
	return plan.Config{Workers: 2, Outer: 0xC0000201, Lo: 1000, Hi: 1999, Buckets: 64, Ring: 16}
}

// field is a part of a Config: how it may be, and how not.
type field struct {
	what  string
	right []func(c *plan.Config)
	wrong []func(c *plan.Config)
}

func workers(n int) func(*plan.Config) { return func(c *plan.Config) { c.Workers = n } }

func outer(a uint32) func(*plan.Config) { return func(c *plan.Config) { c.Outer = a } }

func ports(lo, hi int) func(*plan.Config) { return func(c *plan.Config) { c.Lo, c.Hi = lo, hi } }

func buckets(n int) func(*plan.Config) { return func(c *plan.Config) { c.Buckets = n } }

func ring(n int) func(*plan.Config) { return func(c *plan.Config) { c.Ring = n } }

// each is set with each of these numbers.
func each(set func(int) func(*plan.Config), numbers ...int) []func(*plan.Config) {
	var l []func(*plan.Config)
	for _, n := range numbers {
		l = append(l, set(n))
	}
	return l
}

type change = []func(*plan.Config)

// fields stand in the order in which they are looked at.
func fields() []field {
	return []field{
		{"workers", each(workers, 1, 2, 63, 64), each(workers, 0, 65, -1, -64, 1<<32+1, math.MinInt, math.MaxInt)},
		{"outer", change{outer(1), outer(0x0A000001), outer(0x80000000), outer(0xFFFFFFFE)}, change{outer(0), outer(0xFFFFFFFF)}},
		{"ports", change{
			ports(1, 1), ports(1, 1024), ports(65535, 65535), ports(64512, 65535), ports(1000, 1031), ports(2, 1025),
		}, change{
			ports(0, 5), ports(-1, 5), ports(0, 0), ports(0, 1024), ports(65535, 65536), ports(65536, 65536), ports(64513, 65536),
			ports(1000, 999), ports(65535, 1), ports(1, 0), ports(1, 1025), ports(64511, 65535), ports(1, 65535),
			ports(math.MinInt, 1), ports(math.MinInt, math.MaxInt), ports(1, math.MaxInt), ports(math.MaxInt, math.MinInt),
			ports(1, math.MinInt), ports(math.MaxInt, math.MaxInt), ports(1<<32+1000, 1<<32+1999),
		}},
		{"buckets", each(buckets, 2, 4, 8, 16, 32, 64, 128, 256, 512, 1024), each(buckets, 0, 1, 3, 1023, 1025, 2048, 1<<32, -1, -2, -1024, math.MinInt, math.MaxInt)},
		{"ring", each(ring, 1, 2, 255, 256), each(ring, 0, 257, -1, -256, 1<<32+1, math.MinInt, math.MaxInt)},
	}
}

func pick(r *rand.Rand, l change) func(*plan.Config) { return l[r.Intn(len(l))] }

// made is a Config of which just those fields are wrong that bits chooses.
func made(r *rand.Rand, bits int) (c plan.Config, first string) {
	for i, f := range fields() {
		if bits>>i&1 == 0 {
			pick(r, f.right)(&c)
			continue
		}
		pick(r, f.wrong)(&c)
		if first == "" {
			first = f.what
		}
	}
	return c, first
}

func wantWrong(t *testing.T, c plan.Config, want string) {
	t.Helper()
	if got := plan.Wrong(c); got != want {
		t.Errorf("Wrong of %+v: %q, not %q", c, got, want)
	}
}

func TestWrongOfOneField(t *testing.T) {
	for _, f := range fields() {
		for _, set := range f.right {
			c := sample()
			set(&c)
			wantWrong(t, c, "")
		}
		for _, set := range f.wrong {
			c := sample()
			set(&c)
			wantWrong(t, c, f.what)
		}
	}
	wantWrong(t, plan.Config{}, "workers")
}

func TestWrongTellsTheFirst(t *testing.T) {
	r := rand.New(rand.NewSource(14))
	for bits := range 1 << len(fields()) {
		for range 40 {
			c, first := made(r, bits)
			wantWrong(t, c, first)
		}
	}
}

func TestAllCountsOfBuckets(t *testing.T) {
	may := map[int]bool{2: true, 4: true, 8: true, 16: true, 32: true, 64: true, 128: true, 256: true, 512: true, 1024: true}
	for n := -1100; n <= 5000; n++ {
		c := sample()
		c.Buckets = n
		want := "buckets"
		if may[n] {
			want = ""
		}
		wantWrong(t, c, want)
	}
}

func TestExample(t *testing.T) {
	c, e := plan.Parse("workers=2 outer=192.0.2.1 ports=1000-1999 buckets=64 ring=16")
	if e != api.OK || c != sample() {
		t.Errorf("%+v %d", c, e)
	}
	got := [5]int{plan.Ports(c), plan.Places(c), plan.Words(c), plan.Place(c, api.Udp, 1000), plan.Bound(c)}
	if got != [5]int{1000, 3000, 32, 2000, 2640} {
		t.Error(got)
	}
}

func TestCounts(t *testing.T) {
	for _, x := range []struct{ lo, hi, ports, places, words, bound int }{
		{1, 1, 1, 3, 1, 2020},
		{65535, 65535, 1, 3, 1, 2020},
		{1000, 1030, 31, 93, 1, 2020},
		{1000, 1031, 32, 96, 1, 2020},
		{1000, 1032, 33, 99, 2, 2040},
		{1000, 1063, 64, 192, 2, 2040},
		{1000, 1064, 65, 195, 3, 2060},
		{1, 1023, 1023, 3069, 32, 2640},
		{1, 1024, 1024, 3072, 32, 2640},
		{64512, 65535, 1024, 3072, 32, 2640},
	} {
		c := sample()
		c.Lo, c.Hi = x.lo, x.hi
		got := [4]int{plan.Ports(c), plan.Places(c), plan.Words(c), plan.Bound(c)}
		if got != [4]int{x.ports, x.places, x.words, x.bound} {
			t.Errorf("%d to %d: %v", x.lo, x.hi, got)
		}
	}
}

// TestWordsAreThePools asks the layer whose words they are.
func TestWordsAreThePools(t *testing.T) {
	for n := 1; n <= api.MaxPorts; n++ {
		c := sample()
		c.Lo, c.Hi = 1, n
		p, e := pool.New(plan.Ports(c))
		if e != api.OK || plan.Words(c) != len(p.Copy()) {
			t.Errorf("of %d ports %d words", n, plan.Words(c))
		}
	}
}

func TestKind(t *testing.T) {
	want := map[int]int{1: 0, 6: 1, 17: 2}
	for proto := -300; proto <= 300; proto++ {
		k, ok := want[proto]
		if !ok {
			k = -1
		}
		if got := plan.Kind(proto); got != k {
			t.Errorf("Kind of %d: %d", proto, got)
		}
	}
	for _, proto := range []int{1<<32 + 6, 1<<8 + 17, math.MinInt, math.MaxInt} {
		if plan.Kind(proto) != -1 {
			t.Errorf("Kind of %d: %d", proto, plan.Kind(proto))
		}
	}
}

// right is Configs that aren't wrong.
func right() []plan.Config {
	r := rand.New(rand.NewSource(3))
	l := []plan.Config{sample()}
	for _, f := range fields() {
		for _, set := range f.right {
			c := sample()
			set(&c)
			l = append(l, c)
		}
	}
	for range 60 {
		c, _ := made(r, 0)
		l = append(l, c)
	}
	return l
}

func TestPlaceAndPortUndoEachOther(t *testing.T) {
	for _, c := range right() {
		place := 0
		for _, proto := range []int{1, 6, 17} {
			for port := c.Lo; port <= c.Hi; port++ {
				if got := plan.Place(c, proto, port); got != place {
					t.Fatalf("%+v: Place of %d, %d: %d, not %d", c, proto, port, got, place)
				}
				if a, b := plan.Port(c, place); a != proto || b != port {
					t.Fatalf("%+v: Port of %d: %d, %d, not %d, %d", c, place, a, b, proto, port)
				}
				place++
			}
		}
		if place != plan.Places(c) {
			t.Errorf("%+v: %d places", c, place)
		}
	}
}

func TestPlaceAndPortOfWhatThereIsnt(t *testing.T) {
	for _, c := range right() {
		for _, proto := range []int{1, 6, 17} {
			for _, port := range []int{c.Lo - 1, c.Hi + 1, 0, -1, -c.Lo, 65536, c.Lo + 65536, c.Lo + 1<<32, math.MinInt, math.MaxInt} {
				if got := plan.Place(c, proto, port); got != -1 {
					t.Errorf("%+v: Place of %d, %d: %d", c, proto, port, got)
				}
			}
		}
		for _, proto := range []int{0, 2, 5, 7, 16, 18, 255, 1<<32 + 6, -1, -6, math.MinInt, math.MaxInt} {
			if got := plan.Place(c, proto, c.Lo); got != -1 {
				t.Errorf("%+v: Place of %d, %d: %d", c, proto, c.Lo, got)
			}
		}
		n := plan.Places(c)
		for _, place := range []int{-1, -2, -n, n, n + 1, 2 * n, 1 << 32, math.MinInt, math.MaxInt} {
			if a, b := plan.Port(c, place); a != 0 || b != 0 {
				t.Errorf("%+v: Port of %d: %d, %d", c, place, a, b)
			}
		}
	}
}

func TestOfAWrongConfig(t *testing.T) {
	r := rand.New(rand.NewSource(5))
	for bits := 1; bits < 1<<len(fields()); bits++ {
		for range 40 {
			c, _ := made(r, bits)
			if got := [4]int{plan.Ports(c), plan.Places(c), plan.Words(c), plan.Bound(c)}; got != [4]int{} {
				t.Errorf("%+v: %v", c, got)
			}
			for _, port := range []int{c.Lo, c.Hi, 0, 1, 1000, 65535} {
				for _, proto := range []int{0, 1, 6, 17} {
					if got := plan.Place(c, proto, port); got != -1 {
						t.Errorf("%+v: Place of %d, %d: %d", c, proto, port, got)
					}
				}
			}
			for _, place := range []int{-1, 0, 1, 100, math.MinInt, math.MaxInt} {
				if a, b := plan.Port(c, place); a != 0 || b != 0 {
					t.Errorf("%+v: Port of %d: %d, %d", c, place, a, b)
				}
			}
			if s := plan.Text(c); s != "" {
				t.Errorf("%+v: %q", c, s)
			}
		}
	}
}
