package cell_test

import (
	"math"
	"math/rand"
	"testing"

	"weighbridge/api"
	"weighbridge/cell"
)

func pace(limit, window, burst int64) cell.Pace {
	return cell.Of(api.Rule{Limit: limit, Window: window, Burst: burst})
}

// P9.1 of Of.
func TestOf(t *testing.T) {
	for _, c := range []struct{ limit, window, burst, unit int64 }{
		{10, 10, 1, 1}, {10, 10, 10, 10}, {10, 11, 1, 2}, {10, 100, 5, 17}, {1, 1, 1, 1},
		{api.MaxLimit, api.MaxWindow, 1, 512}, {api.MaxLimit, 1, 1, 1}, {1, api.MaxWindow, 1, api.MaxWindow},
		{api.MaxLimit, api.MaxWindow, api.MaxLimit, api.MaxWindow},
	} {
		want := cell.Pace{Unit: c.unit, Window: c.window, Burst: c.burst, Limit: c.limit}
		if got := pace(c.limit, c.window, c.burst); got != want {
			t.Errorf("%v: %v", c, got)
		}
	}
}

// P9.1: the example: one at each time.
func TestOneAtEachTime(t *testing.T) {
	p, c := pace(10, 10, 1), cell.New(0, 0)
	for now := range int64(40) {
		if !c.Take(p, now, 1) || c.Take(p, now, 1) || c.Wait(p, now, 1) != 1 || c.Room(p, now) != 0 {
			t.Fatal(now, c)
		}
	}
}

// P9.1 of New, Take: what stands in a cell.
func TestNewTake(t *testing.T) {
	p := pace(10, 100, 5) // a unit of 17
	c := cell.New(7, 3)
	if c != (cell.Cell{Full: 7, Since: 7, Carry: 3}) {
		t.Fatal(c)
	}
	for _, cost := range []int64{math.MinInt64, -1, 0, 6, math.MaxInt64} {
		if c.Take(p, 7, cost) || c != cell.New(7, 3) {
			t.Fatal(cost, c)
		}
	}
	if !c.Take(p, 7, 2) || c != (cell.Cell{Full: 41, Since: 7, Carry: 3, Used: 2}) {
		t.Fatal(c)
	}
	// From 41 up to 24 and 85 there is room for four units, and one more of time.
	if got := c.Room(p, 24); got != 4 {
		t.Fatal(got)
	}
	if c.Take(p, 23, 4) || !c.Take(p, 24, 4) || c != (cell.Cell{Full: 109, Since: 7, Carry: 3, Used: 6}) {
		t.Fatal(c)
	}
	// Of the limit 10 it has carried 3 and used 6.
	if got := c.Room(p, 106); got != 1 {
		t.Fatal(got)
	}
	if got := c.Room(p, 107); got != 4 {
		t.Fatal(got)
	}
	if !c.Take(p, 300, 5) || c != (cell.Cell{Full: 385, Since: 7, Carry: 3, Used: 11}) {
		t.Fatal(c)
	}
	if (*cell.Cell)(nil).Take(p, 0, 1) {
		t.Fatal("a nil cell takes")
	}
}

// P9.1 of Room, Wait, Idle, Bound of a young cell: its carry leaves less, not below 0.
func TestYoung(t *testing.T) {
	p := pace(10, 100, 5)
	for carry, want := range map[int64]int64{0: 5, 5: 5, 6: 4, 9: 1, 10: 0, 11: 0, math.MaxInt64: 0} {
		c := cell.New(50, carry)
		for _, now := range []int64{50, 51, 149} {
			if got := c.Room(p, now); got != want {
				t.Errorf("carry %d at %d: %d, not %d", carry, now, got, want)
			}
			if c.Idle(p, now) {
				t.Error("a young one is idle", now)
			}
		}
		if c.Room(p, 150) != 5 || !c.Idle(p, 150) {
			t.Error("from Since and Window on it isn't young", carry)
		}
		wait := int64(0)
		if want < 5 {
			wait = 40
		}
		if got := c.Wait(p, 110, 5); got != wait {
			t.Errorf("carry %d: %d, not %d", carry, got, wait)
		}
	}
}

// P9.1: a carry and what was used are held against the limit without running over.
func TestGreatestCarry(t *testing.T) {
	p, c := pace(10, 100, 5), cell.New(0, math.MaxInt64)
	if !c.Take(p, 100, 5) || c.Room(p, 99) != 0 || c.Wait(p, 99, 1) != 18 {
		t.Fatal(c, c.Room(p, 99), c.Wait(p, 99, 1))
	}
}

// P9.1 of Bound, Idle: their edges.
func TestBound(t *testing.T) {
	p := pace(10, 100, 5)
	c := cell.New(0, 0)
	c.Take(p, 0, 5)
	c.Take(p, 90, 4)
	if c.Full != 158 {
		t.Fatal(c)
	}
	for now, want := range map[int64]int64{90: 9, 99: 9, 100: 9, 106: 8, 107: 8, 173: 5, 174: 4, 241: 1, 242: 0, 258: 0, 1 << 62: 0} {
		if got := c.Bound(p, now); got != want {
			t.Errorf("at %d: %d, not %d", now, got, want)
		}
		if got := c.Idle(p, now); got != (now >= 258) {
			t.Errorf("at %d: idle %t", now, got)
		}
	}
	if c.Idle(p, 257) {
		t.Error("idle ahead of its end")
	}
	// At most the limit, however far it is full.
	if got := (cell.Cell{Full: 5000}).Bound(p, 100); got != 10 {
		t.Error(got)
	}
}

// P9.1: at the greatest numbers that rules and times have nothing runs over.
func TestGreatest(t *testing.T) {
	for _, p := range []cell.Pace{
		pace(api.MaxLimit, api.MaxWindow, 1), pace(1, api.MaxWindow, 1), pace(api.MaxLimit, 1, api.MaxLimit),
		pace(1<<21, api.MaxWindow, 1<<20), pace(1<<20, api.MaxWindow, 1<<20),
	} {
		const now = api.Horizon
		c := cell.New(now, 0)
		if c.Room(p, now) != p.Burst || !c.Take(p, now, p.Burst) {
			t.Fatal(p, c)
		}
		if c.Full != now+p.Burst*p.Unit || c.Room(p, now) != 0 || c.Bound(p, now) != p.Burst || c.Idle(p, now) {
			t.Fatal(p, c, c.Room(p, now))
		}
		wait := c.Wait(p, now, p.Burst)
		if wait < p.Unit || c.Room(p, now+wait) != p.Burst || c.Room(p, now+wait-1) == p.Burst {
			t.Fatal(p, c, wait)
		}
	}
}

// P0: of a pace of no rule nothing is said, but that each call ends.
func TestWrongPacesEnd(t *testing.T) {
	edges := []int64{math.MinInt64, -1, 0, 1, math.MaxInt64}
	for _, a := range edges {
		for _, b := range edges {
			cell.Of(api.Rule{Limit: a, Window: b, Burst: a})
			p := cell.Pace{Unit: a, Window: b, Burst: a, Limit: b}
			c := cell.Cell{Full: b, Since: a, Carry: b, Used: a}
			c.Room(p, a)
			c.Wait(p, b, a)
			c.Bound(p, a)
			c.Idle(p, b)
			c.Take(p, a, b)
		}
	}
}

// fits: may a cost be taken, in the chapter's words?
func fits(c cell.Cell, p cell.Pace, now, cost int64) bool {
	if now < c.Since+p.Window && c.Carry+c.Used+cost > p.Limit {
		return false
	}
	return cost <= p.Burst && max(c.Full, now)+cost*p.Unit <= now+p.Burst*p.Unit
}

// virtual is the virtual scheduling of I.371: a cell of increment and limit, one for each of a cost.
type virtual struct{ arrival, increment, limit int64 }

func (v *virtual) conforms(now, cost int64) bool {
	next := *v
	for range cost {
		if next.arrival > now+next.limit {
			return false
		}
		next.arrival = max(now, next.arrival) + next.increment
	}
	*v = next
	return true
}

type taken struct{ at, cost int64 }

// within: what was taken from one time on, ahead of another one.
func within(l []taken, from, to int64) int64 {
	sum := int64(0)
	for _, x := range l {
		if x.at >= from && x.at < to {
			sum += x.cost
		}
	}
	return sum
}

// P9.1 against the words, P9.2 against what was taken, at random times.
func TestAgainstWhatWasTaken(t *testing.T) {
	draws := rand.New(rand.NewSource(11))
	for range 300 {
		limit := draws.Int63n(12) + 1
		p := pace(limit, draws.Int63n(30)+1, draws.Int63n(limit)+1)
		now := draws.Int63n(50)
		carry := draws.Int63n(2) * draws.Int63n(2*limit)
		c := cell.New(now, carry)
		v := &virtual{now, p.Unit, (p.Burst - 1) * p.Unit}
		var l []taken
		for range 60 {
			now += draws.Int63n(4) * draws.Int63n(2+p.Window/3)
			cost := draws.Int63n(p.Burst) + 1
			wantRoom(t, c, p, now)
			want := fits(c, p, now, cost)
			if got := c.Take(p, now, cost); got != want {
				t.Fatal(p, c, now, cost, got)
			}
			if want {
				l = append(l, taken{now, cost})
			}
			if carry == 0 && v.conforms(now, cost) != want {
				t.Fatal("not the cell of I.371", p, c, now, cost)
			}
			wantBounds(t, c, p, now, l)
		}
	}
}

func wantRoom(t *testing.T, c cell.Cell, p cell.Pace, now int64) {
	t.Helper()
	room := int64(0)
	for cost := int64(1); cost <= p.Burst; cost++ {
		if fits(c, p, now, cost) {
			room = cost
		}
		wait := int64(0)
		for !fits(c, p, now+wait, cost) {
			wait++
		}
		if got := c.Wait(p, now, cost); got != wait {
			t.Fatalf("%v of %v at %d: Wait of %d: %d, not %d", c, p, now, cost, got, wait)
		}
	}
	if got := c.Room(p, now); got != room {
		t.Fatalf("%v of %v at %d: Room %d, not %d", c, p, now, got, room)
	}
}

func wantBounds(t *testing.T, c cell.Cell, p cell.Pace, now int64, l []taken) {
	t.Helper()
	for _, x := range l {
		if got := within(l, x.at, x.at+p.Window); got > p.Limit {
			t.Fatalf("%v: %d taken from %d on", p, got, x.at)
		}
	}
	if c.Carry > 0 && within(l, 0, c.Since+p.Window)+c.Carry > max(p.Limit, c.Carry) {
		t.Fatal("more than the carry leaves", p, c)
	}
	for _, at := range []int64{now, now + 1, now + p.Window/2, now + p.Window, now + 3*p.Window} {
		bound := c.Bound(p, at)
		if bound < within(l, at-p.Window+1, at+1) || bound > p.Limit || bound < 0 {
			t.Fatalf("%v of %v at %d: Bound %d", c, p, at, bound)
		}
		want := max(0, c.Full-(at-p.Window)) / p.Unit
		if at < c.Since+p.Window {
			want = c.Used
		}
		if bound != min(want, p.Limit) || c.Idle(p, at) != (at >= c.Since+p.Window && c.Full <= at-p.Window) {
			t.Fatalf("%v of %v at %d: Bound %d, idle %t", c, p, at, bound, c.Idle(p, at))
		}
	}
}
