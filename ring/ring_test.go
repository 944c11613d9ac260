package ring_test

import (
	"math"
	"math/rand"
	"strconv"
	"testing"

	"weighbridge/api"
	"weighbridge/arith"
	"weighbridge/hash"
	"weighbridge/ring"
	"weighbridge/slot"
)

func rows(n int) []hash.Row {
	draws := rand.New(rand.NewSource(10))
	l := make([]uint64, 3*n)
	for i := range l {
		l[i] = draws.Uint64()
	}
	return hash.Rows(l, n)
}

func rule(limit, window int64, slots int, smooth bool) api.Rule {
	return api.Rule{Limit: limit, Window: window, Burst: 1, Slots: slots, Cells: 1, Rows: 2, Width: 64, Track: 1, Smooth: smooth}
}

// P7.1: the example.
func TestCountsUpToTheWindow(t *testing.T) {
	for _, c := range []struct{ at, want int64 }{{1, 3}, {2, 3}, {9, 3}, {10, 3}, {11, 3}, {12, 0}, {1 << 61, 0}} {
		x := ring.New(rule(100, 10, 5, false), rows(2))
		x.To(1)
		x.Add("a", 3)
		x.To(c.at)
		if got := x.Estimate("a"); got != c.want || x.Mass(0, "a") != c.want {
			t.Errorf("at %d: %d, %d", c.at, got, x.Mass(0, "a"))
		}
	}
}

// P7.1 of a smooth rule: of the eldest slot the part that is left, to the next whole number up; Mass has it whole.
func TestSmooth(t *testing.T) {
	// A stretch is 5; what is added at 7 stands in slot 1, which is the eldest from 15 up to 19.
	for _, c := range []struct{ at, want, mass int64 }{{7, 7, 7}, {14, 7, 7}, {15, 7, 7}, {16, 6, 7}, {17, 5, 7}, {18, 3, 7}, {19, 2, 7}, {20, 0, 0}} {
		x := ring.New(rule(100, 10, 2, true), rows(2))
		x.To(7)
		x.Add("a", 7)
		x.To(c.at)
		if got := x.Estimate("a"); got != c.want || x.Mass(1, "a") != c.mass {
			t.Errorf("at %d: %d, %d", c.at, got, x.Mass(1, "a"))
		}
	}
}

// P7.1 of New, and of a nil Ring.
func TestNil(t *testing.T) {
	good := rule(1, 64, 64, false)
	wrong := []api.Rule{good, good, good, good, good, good, good, good, good, good}
	wrong[0].Slots = 0
	wrong[1].Slots = 65
	wrong[2].Slots = math.MinInt
	wrong[3].Window = 63
	wrong[4].Window = -64
	wrong[5].Window = math.MinInt64
	wrong[6].Width = 0
	wrong[7].Width = math.MinInt
	wrong[8].Slots = math.MaxInt
	wrong[9].Width = math.MaxInt
	l := []*ring.Ring{ring.New(good, nil), ring.New(good, []hash.Row{})}
	for _, r := range wrong {
		l = append(l, ring.New(r, rows(2)))
	}
	for i, x := range l {
		if x != nil {
			t.Fatal(i)
		}
		x.To(5)
		x.Add("a", 5)
		if x.Number(7) != 0 || x.Estimate("a") != 0 || x.Mass(0, "a") != 0 || x.Wait("a", math.MaxInt64) != 0 {
			t.Fatal(i, "a nil ring has something")
		}
	}
	if ring.New(good, rows(1)) == nil {
		t.Fatal("a ring of the most slots")
	}
}

// P7.1 of Bytes.
func TestBytes(t *testing.T) {
	r := rule(1, 10, 5, false)
	if got := ring.Bytes(r); got != 6*(16+8*2*64) {
		t.Error(got)
	}
	r.Slots, r.Rows, r.Width = 64, 8, 4096
	if got := ring.Bytes(r); got != 65*(16+8*8*4096) {
		t.Error(got)
	}
	r.Slots, r.Width = math.MaxInt, math.MaxInt
	if got := ring.Bytes(r); got != math.MaxInt64 {
		t.Error(got)
	}
}

// P7.1 of Number, To: the time never goes back, and begins at 0.
func TestTime(t *testing.T) {
	x := ring.New(rule(10, 10, 5, false), rows(2))
	for at, want := range map[int64]int64{0: 0, 1: 0, 2: 1, 10: 5, 1<<62 - 1: 1<<61 - 1} {
		if got := x.Number(at); got != want {
			t.Errorf("Number(%d): %d, not %d", at, got, want)
		}
	}
	x.To(math.MinInt64)
	x.Add("a", 1)
	x.To(12)
	if got := x.Estimate("a"); got != 0 {
		t.Error(got)
	}
	x.Add("a", 2)
	x.To(3)
	if got := x.Estimate("a"); got != 2 {
		t.Error("the time went back", got)
	}
	x.To(20)
	x.Add("a", 4)
	if got := x.Estimate("a"); got != 6 {
		t.Error(got)
	}
}

// P7.1: a slot's place is taken again only when it counts no more.
func TestPlaceIsTakenAgain(t *testing.T) {
	x := ring.New(rule(100, 4, 2, false), rows(2))
	for n, want := range []int64{1, 3, 7, 14, 28, 56} {
		x.To(2 * int64(n))
		x.Add("a", 1<<n)
		if got := x.Estimate("a"); got != want {
			t.Fatal(n, got, want)
		}
	}
	x.To(1 << 40)
	x.Add("a", 1)
	if got := x.Estimate("a"); got != 1 {
		t.Fatal(got)
	}
}

// P7.1 of Add, Mass: costs below 1, rows that aren't.
func TestWrongNumbers(t *testing.T) {
	x := ring.New(rule(100, 10, 5, false), rows(2))
	x.Add("a", 0)
	x.Add("a", -5)
	x.Add("a", math.MinInt64)
	if x.Estimate("a") != 0 {
		t.Fatal("a cost below 1")
	}
	x.Add("a", 3)
	for _, row := range []int{math.MinInt, -1, 2, math.MaxInt} {
		if got := x.Mass(row, "a"); got != 0 {
			t.Error(row, got)
		}
	}
}

// P7.1: sums end at the greatest number.
func TestGreatest(t *testing.T) {
	for _, smooth := range []bool{false, true} {
		x := ring.New(rule(math.MaxInt64, 10, 5, smooth), rows(2))
		x.Add("a", math.MaxInt64)
		x.To(10)
		x.Add("a", math.MaxInt64)
		if x.Estimate("a") != math.MaxInt64 || x.Mass(0, "a") != math.MaxInt64 || x.Wait("a", math.MaxInt64) != 0 {
			t.Error(x.Estimate("a"), x.Mass(0, "a"), x.Wait("a", math.MaxInt64))
		}
	}
	// The part of the greatest number, and not of what a sum leaves of it.
	x := ring.New(rule(10, 10, 5, true), rows(2))
	x.Add("a", math.MaxInt64)
	x.To(4)
	x.Add("a", 10)
	x.To(11)
	if got := x.Estimate("a"); got != 1<<62+10 {
		t.Error(got)
	}
	if got := x.Wait("a", 1); got != 5 {
		t.Error(got)
	}
}

// P7.1 of Wait: its edges. A stretch is 2, the limit 10.
func TestWait(t *testing.T) {
	for _, smooth := range []bool{false, true} {
		x := ring.New(rule(10, 10, 5, smooth), rows(2))
		x.To(1)
		x.Add("a", 4)
		x.To(5)
		x.Add("a", 5)
		for cost, want := range map[int64]int64{
			-5: 0, 0: 0, 1: 0, // 9 and 1 are the limit
			2: 7, 5: 7, // at 12 slot 0 is gone
			6: 11, 10: 11, // at 16 slot 2 is gone
			11: 11, math.MaxInt64: 11, // never: the last of the next six begins at 16
		} {
			if got := x.Wait("a", cost); got != want {
				t.Errorf("smooth %t, cost %d: %d, not %d", smooth, cost, got, want)
			}
		}
		if got := x.Wait("b", 11); got != 11 {
			t.Error("another key", got)
		}
	}
}

// P0: of times past those that there are nothing is said, but that each call ends.
func TestLatestTimesEnd(t *testing.T) {
	for slots := range 7 {
		for back := range int64(8) {
			x := ring.New(rule(10, int64(slots), slots, false), rows(1))
			x.To(math.MaxInt64 - back)
			x.Add("a", 9)
			x.Wait("a", 5)
			x.Wait("a", math.MaxInt64)
			x.Estimate("a")
			x.Mass(0, "a")
			x.Number(math.MinInt64)
		}
	}
}

// plain is a ring written plainly: a sketch for each number there ever was.
type plain struct {
	rule  api.Rule
	rows  []hash.Row
	slots map[int64]*slot.Slot
	time  int64
}

func (p *plain) stretch() int64 { return p.rule.Window / int64(p.rule.Slots) }

func (p *plain) add(key string, cost int64) {
	n := p.time / p.stretch()
	if p.slots[n] == nil {
		p.slots[n] = slot.New(p.rows, p.rule.Width)
	}
	p.slots[n].Add(key, cost)
}

func (p *plain) estimate(key string, at int64) int64 {
	sum, now := int64(0), at/p.stretch()
	for n := now - int64(p.rule.Slots); n <= now; n++ {
		part := p.slots[n].Least(key)
		if p.rule.Smooth && n == now-int64(p.rule.Slots) {
			up, _ := arith.Up(uint64(part), uint64(p.stretch()-at%p.stretch()), uint64(p.stretch()))
			part = int64(up)
		}
		sum += part
	}
	return sum
}

func (p *plain) mass(row int, key string) int64 {
	sum, now := int64(0), p.time/p.stretch()
	for n := now - int64(p.rule.Slots); n <= now; n++ {
		sum += p.slots[n].Count(row, key)
	}
	return sum
}

func (p *plain) wait(key string, cost int64) int64 {
	if p.estimate(key, p.time)+cost <= p.rule.Limit {
		return 0
	}
	begin := int64(0)
	for j := range int64(p.rule.Slots) + 1 {
		begin = (p.time/p.stretch() + j + 1) * p.stretch()
		if p.estimate(key, begin)+cost <= p.rule.Limit {
			break
		}
	}
	return begin - p.time
}

type added struct {
	key      string
	at, cost int64
}

// within: what was added to a key from a time on.
func within(l []added, key string, from int64) int64 {
	sum := int64(0)
	for _, a := range l {
		if a.key == key && a.at >= from {
			sum += a.cost
		}
	}
	return sum
}

// P7.1 against a plain ring; P7.2: Estimate is at least what was added, at most any Mass.
func TestAgainstPlainRing(t *testing.T) {
	rules := []api.Rule{
		rule(20, 10, 1, false), rule(20, 10, 5, false), rule(20, 10, 10, false),
		rule(20, 10, 2, true), rule(20, 24, 6, true), rule(20, 11, 5, false), rule(20, 11, 5, true),
	}
	for i, r := range rules {
		r.Width = 1 + i%4
		draws := rand.New(rand.NewSource(int64(i)))
		x, p, all := ring.New(r, rows(2)), &plain{r, rows(2), map[int64]*slot.Slot{}, 0}, []added(nil)
		for range 1500 {
			p.time += draws.Int63n(4) * draws.Int63n(3)
			if draws.Intn(40) == 0 {
				p.time += draws.Int63n(3 * r.Window)
			}
			x.To(p.time)
			a := added{strconv.Itoa(draws.Intn(5)), p.time, draws.Int63n(6)}
			x.Add(a.key, a.cost)
			p.add(a.key, a.cost)
			all = append(all, a)
			wantAlike(t, x, p, all[max(0, len(all)-100):])
		}
	}
}

func wantAlike(t *testing.T, x *ring.Ring, p *plain, l []added) {
	t.Helper()
	for k := range 6 {
		key := strconv.Itoa(k)
		got := x.Estimate(key)
		if want := p.estimate(key, p.time); got != want {
			t.Fatalf("%v: Estimate at %d: %d, not %d", p.rule, p.time, got, want)
		}
		from := p.time - p.stretch()*int64(p.rule.Slots) + 1
		if p.rule.Smooth {
			from += p.stretch()
		}
		if got < within(l, key, from) {
			t.Fatalf("%v: Estimate at %d: %d, below %d", p.rule, p.time, got, within(l, key, from))
		}
		for row := range 2 {
			if mass := x.Mass(row, key); mass != p.mass(row, key) || mass < got {
				t.Fatalf("%v: Mass at %d: %d, not %d", p.rule, p.time, mass, p.mass(row, key))
			}
		}
		for cost := range int64(25) {
			if got, want := x.Wait(key, cost), p.wait(key, cost); got != want {
				t.Fatalf("%v: Wait at %d of %d: %d, not %d", p.rule, p.time, cost, got, want)
			}
		}
	}
}
