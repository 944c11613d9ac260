package config_test

import (
	"bytes"
	"math"
	"math/big"
	"math/rand"
	"reflect"
	"testing"

	"weighbridge/api"
	"weighbridge/config"
	"weighbridge/limiter"
)

func rule() api.Rule {
	return api.Rule{Limit: 10, Window: 100, Burst: 5, Slots: 5, Cells: 3, Rows: 2, Width: 16, Track: 4}
}

func smooth() api.Rule {
	return api.Rule{Limit: 1 << 31, Window: 1 << 40, Burst: 1, Slots: 64, Cells: 1024, Rows: 8, Width: 4096, Track: 64, Smooth: true}
}

func conf() api.Config {
	return api.Config{Budget: 1 << 32, Conns: 2, Out: 1 << 16, Rules: []api.Rule{rule(), smooth(), rule()}}
}

// P17.1 of RuleRight: each field at its edges and past them; the example.
func TestRuleRightEdges(t *testing.T) {
	type change func(r *api.Rule, x int64)
	cases := []struct {
		name        string
		change      change
		right, base []int64
	}{
		{"Limit", func(r *api.Rule, x int64) { r.Limit, r.Burst = x, 1 }, []int64{1, 2, 1 << 31}, []int64{math.MinInt64, -1, 0, 1<<31 + 1, math.MaxInt64}},
		{"Window", func(r *api.Rule, x int64) { r.Window = x }, []int64{5, 10, 1<<40 - 1}, []int64{math.MinInt64, -5, 0, 1, 4, 6, 1 << 40, 1<<40 + 4, math.MaxInt64}},
		{"Burst", func(r *api.Rule, x int64) { r.Burst = x }, []int64{1, 5, 10}, []int64{math.MinInt64, -1, 0, 11, math.MaxInt64}},
		{"Slots", func(r *api.Rule, x int64) { r.Slots, r.Window = int(x), 64*63 }, []int64{1, 2, 63, 64}, []int64{math.MinInt64, -1, 0, 5, 65, 126, math.MaxInt64}},
		{"Cells", func(r *api.Rule, x int64) { r.Cells = int(x) }, []int64{1, 1024}, []int64{math.MinInt64, -1, 0, 1025, math.MaxInt64}},
		{"Rows", func(r *api.Rule, x int64) { r.Rows = int(x) }, []int64{1, 8}, []int64{math.MinInt64, -1, 0, 9, math.MaxInt64}},
		{"Width", func(r *api.Rule, x int64) { r.Width = int(x) }, []int64{1, 4096}, []int64{math.MinInt64, -1, 0, 4097, math.MaxInt64}},
		{"Track", func(r *api.Rule, x int64) { r.Track = int(x) }, []int64{1, 64}, []int64{math.MinInt64, -1, 0, 65, math.MaxInt64}},
		{"smooth Slots", func(r *api.Rule, x int64) { r.Slots, r.Smooth = int(x), true }, []int64{2, 4, 5}, []int64{0, 1, 3}},
	}
	for _, c := range cases {
		for _, right := range []bool{true, false} {
			l := c.base
			if right {
				l = c.right
			}
			for _, x := range l {
				r := rule()
				c.change(&r, x)
				if got := config.RuleRight(r); got != right {
					t.Errorf("%s %d: %t", c.name, x, got)
				}
			}
		}
	}
	if !config.RuleRight(rule()) || !config.RuleRight(smooth()) || config.RuleRight(api.Rule{}) {
		t.Error("the rules themselves")
	}
}

// P17.1 of RuleRight: Burst times its Unit is at most 2^60.
func TestSteepest(t *testing.T) {
	for _, c := range []struct {
		limit, window, burst int64
		want                 bool
	}{
		{1 << 20, 1 << 40, 1 << 20, true},       // 2^20 of 2^40
		{1<<20 + 1, 1 << 40, 1<<20 + 1, false},  // one more
		{1<<20 + 2, 1 << 40, 1<<20 + 1, true},   // half the unit
		{1 << 31, 1 << 40, 1 << 31, false},      // 2^71
		{1 << 31, 1 << 29, 1 << 31, true},       // 2^60
		{1 << 31, 1<<29 + 1, 1 << 31, false},    // just above
		{1 << 31, 1 << 40, 1<<31 - 2047, true},  // a unit of 2^29, just below
		{1 << 31, 1 << 40, 1<<31 - 2046, false}, // a unit of 2^40 by 2047, up
		{1 << 31, 1 << 40, 1 << 30, true},       // a unit of 1024
		{3, 3 << 38, 3, true}, {1, 1 << 40, 1, true},
	} {
		r := api.Rule{Limit: c.limit, Window: c.window, Burst: c.burst, Slots: 1, Cells: 1, Rows: 1, Width: 1, Track: 1}
		steps := new(big.Int).SetInt64(c.limit + 1 - c.burst)
		unit := new(big.Int).Add(big.NewInt(c.window-1), steps)
		unit.Div(unit, steps)
		if want := unit.Mul(unit, big.NewInt(c.burst)).Cmp(big.NewInt(1<<60)) <= 0; want != c.want {
			t.Fatal("the case is wrong", c)
		}
		if got := config.RuleRight(r); got != c.want {
			t.Errorf("%v: %t", c, got)
		}
	}
}

// P17.1 of Most: of a fault, a check, stats, and the longest list.
func TestMost(t *testing.T) {
	r := rule()
	for track, want := range map[int]int{1: 88, 2: 169, 4: 331, 64: 5191} {
		r.Track = track
		if got := config.Most(api.Config{Rules: []api.Rule{r}}); got != want {
			t.Error(track, got)
		}
	}
	if got := config.Most(conf()); got != 5191 {
		t.Error(got)
	}
	if got := config.Most(api.Config{}); got != 6 {
		t.Error(got)
	}
}

// P17.1 of Footprint: of each connection its output, of each rule its slices.
func TestFootprint(t *testing.T) {
	c := conf()
	if got, want := config.Footprint(c), 2<<16+2*limiter.Bytes(rule())+limiter.Bytes(smooth()); got != want {
		t.Error(got, want)
	}
	// 3 cells, six slots of two rows, 4 tracked keys, three functions.
	one := api.Config{Conns: 3, Out: 400, Rules: []api.Rule{rule()}}
	if got := config.Footprint(one); got != 3*400+(3*69+7*4+3*32)+6*(16+8*2*16)+(4*69+9*4+4*24)+3*24 {
		t.Error(got)
	}
	if got := config.Footprint(api.Config{Conns: 1 << 31, Out: 1 << 31}); got != 1<<62 {
		t.Error(got)
	}
}

// P17.1 of Right: each field at its edges and past them.
func TestRightEdges(t *testing.T) {
	check := func(name string, x int64, want bool, change func(c *api.Config)) {
		t.Helper()
		c := conf()
		change(&c)
		if got := config.Right(c); got != want {
			t.Errorf("%s %d: %t", name, x, got)
		}
	}
	for x, want := range map[int]bool{math.MinInt: false, -1: false, 0: false, 1: true, 16: true, 17: false, math.MaxInt: false} {
		check("Conns", int64(x), want, func(c *api.Config) { c.Conns = x })
	}
	for x, want := range map[int]bool{math.MinInt: false, -1: false, 0: false, 5190: false, 5191: true, 1 << 16: true, 1<<16 + 1: false, math.MaxInt: false} {
		check("Out", int64(x), want, func(c *api.Config) { c.Out = x })
	}
	need := config.Footprint(conf())
	for x, want := range map[int64]bool{math.MinInt64: false, -1: false, 0: false, need - 1: false, need: true, 1 << 32: true, 1<<32 + 1: false, math.MaxInt64: false} {
		check("Budget", x, want, func(c *api.Config) { c.Budget = x })
	}
	for n := range 12 {
		rules := make([]api.Rule, n)
		for i := range rules {
			rules[i] = rule()
		}
		check("rules", int64(n), n >= 1 && n <= 8, func(c *api.Config) { c.Rules = rules })
	}
	for i := range 3 {
		check("the wrong one of rules", int64(i), false, func(c *api.Config) { c.Rules[i].Burst = 1 << 32 })
	}
	check("two alike that may not be", 0, false, func(c *api.Config) { c.Rules[0].Burst, c.Rules[2].Burst = 11, 11 })
	check("as it is", 0, true, func(c *api.Config) {})
	if config.Right(api.Config{}) {
		t.Error("nothing may be")
	}
}

// P17.1 of Encode: the numbers in their order, in eight bytes each.
func TestEncode(t *testing.T) {
	c := api.Config{Budget: 0x0102030405060708, Conns: 2, Out: 3, Rules: []api.Rule{
		{Limit: 4, Window: 5, Burst: 6, Slots: 7, Cells: 8, Rows: 9, Width: 10, Track: 11, Smooth: true}, {Limit: -1},
	}}
	want := []byte{1, 2, 3, 4, 5, 6, 7, 8}
	for _, n := range []byte{2, 3, 2, 4, 5, 6, 7, 8, 9, 10, 11, 1} {
		want = append(want, 0, 0, 0, 0, 0, 0, 0, n)
	}
	want = append(append(want, bytes.Repeat([]byte{0xff}, 8)...), make([]byte, 64)...)
	if got := config.Encode(c); !bytes.Equal(got, want) {
		t.Fatalf("%x, not %x", got, want)
	}
	if got := config.Encode(api.Config{}); !bytes.Equal(got, make([]byte, 32)) {
		t.Fatal(got)
	}
}

func wantNone(t *testing.T, b []byte) {
	t.Helper()
	if c, e := config.Decode(b); e != api.ErrForm || !reflect.DeepEqual(c, api.Config{}) {
		t.Fatalf("%x: %v, %d", b, c, e)
	}
}

// P17.1 of Decode: a configuration comes back; what is shorter, longer, or may not be, doesn't.
func TestDecode(t *testing.T) {
	b := config.Encode(conf())
	if c, e := config.Decode(b); e != api.OK || !reflect.DeepEqual(c, conf()) {
		t.Fatal(c, e)
	}
	for n := range b {
		wantNone(t, b[:n])
	}
	wantNone(t, append(bytes.Clone(b), 0))
	wantNone(t, append(bytes.Clone(b), make([]byte, 8)...))
	wantNone(t, append(bytes.Clone(b), make([]byte, 72)...))
	for _, n := range []uint64{0, 2, 4, 8, 9, 1 << 32, 1<<64 - 1, 1 << 61, (1<<64-1)/9 + 1} {
		other := bytes.Clone(b)
		for i := range 8 {
			other[24+i] = byte(n >> (56 - 8*i))
		}
		wantNone(t, other)
	}
	// Each number that is greatest is too great, of each rule; so is a 2 that says whether it is smooth.
	for at := 0; at < len(b); at += 8 {
		other := bytes.Clone(b)
		copy(other[at:], "\xff\xff\xff\xff\xff\xff\xff\xff")
		wantNone(t, other)
	}
	for _, c := range []byte{2, 255} {
		other := bytes.Clone(b)
		other[len(b)-1] = c
		wantNone(t, other)
		other[len(b)-1] = 1
		other[len(b)-2] = c
		wantNone(t, other)
	}
	wrong := conf()
	wrong.Rules[1].Smooth, wrong.Rules[1].Slots = true, 1
	wantNone(t, config.Encode(wrong))
	wrong = conf()
	wrong.Budget = config.Footprint(wrong) - 1
	wantNone(t, config.Encode(wrong))
	wantNone(t, nil)
}

// P0: any bytes; what Decode reads is written again as these bytes.
func TestDecodeOfAnyBytes(t *testing.T) {
	d, read := rand.New(rand.NewSource(17)), 0
	for range 20000 {
		b := config.Encode(conf())
		for range d.Intn(3) {
			b[d.Intn(len(b))] = byte(d.Intn(256))
		}
		same := bytes.Clone(b)
		c, e := config.Decode(b)
		if !bytes.Equal(b, same) {
			t.Fatal("changed")
		}
		if e != api.OK {
			wantNone(t, b)
			continue
		}
		read++
		if !config.Right(c) || !bytes.Equal(config.Encode(c), b) {
			t.Fatalf("%x: %v", b, c)
		}
	}
	if read < 1000 {
		t.Fatal("few", read)
	}
}
