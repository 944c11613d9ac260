package limiter_test

import (
	"math"
	"math/rand"
	"slices"
	"strconv"
	"strings"
	"testing"

	"weighbridge/api"
	"weighbridge/cell"
	"weighbridge/hash"
	"weighbridge/limiter"
	"weighbridge/pool"
	"weighbridge/ring"
	"weighbridge/summary"
)

// rule: limit 10 in a window of 10 in five slots, at most 4 at once (a unit of 2); one cell.
func rule() api.Rule {
	return api.Rule{Limit: 10, Window: 10, Burst: 4, Slots: 5, Cells: 1, Rows: 2, Width: 64, Track: 4}
}

func draws(seed int64, n int) []uint64 {
	source := rand.New(rand.NewSource(seed))
	l := make([]uint64, n)
	for i := range l {
		l[i] = source.Uint64()
	}
	return l
}

func wantCheck(t *testing.T, l *limiter.Limiter, now int64, key string, cost int64, want api.Answer, events ...api.Event) {
	t.Helper()
	got, came := l.Check(now, 0, key, cost)
	if got != want || !slices.Equal(came, events) {
		t.Fatalf("at %d %q asks %d: %v, %v, not %v, %v", now, key, cost, got, came, want, events)
	}
}

func allow(remaining int64) api.Answer {
	return api.Answer{Verdict: api.Allow, Remaining: remaining}
}

func deny(remaining, retry int64) api.Answer {
	return api.Answer{Verdict: api.Deny, Remaining: remaining, Retry: retry}
}

func up(key string, at int64) api.Event   { return api.Event{Key: key, Up: true, At: at} }
func down(key string, at int64) api.Event { return api.Event{Key: key, At: at} }

// P12.1: the example, and the answers of the cell and of the ring.
func TestOneCellTwoKeys(t *testing.T) {
	l := limiter.New(rule(), draws(1, 9))
	wantCheck(t, l, 0, "a", 4, allow(0), up("a", 0))
	wantCheck(t, l, 0, "a", 1, deny(0, 2))
	// a was offered 5, so b stays with the ring: 10 in the window, and 4 at once of what is left.
	wantCheck(t, l, 1, "b", 4, allow(4))
	if c, ok := l.Resident("b"); ok || c.Since != 0 {
		t.Fatal("resident")
	}
	if got := l.Mass(1, 0, "b"); got != 4 {
		t.Fatal(got)
	}
	wantCheck(t, l, 1, "b", 1, allow(4))
	// b was offered 9 now, which is more than a's 5: it gets the cell, its 5 are carried in, and a's 4 go to the ring.
	wantCheck(t, l, 2, "b", 4, allow(0), down("a", 2), up("b", 2))
	if got := l.Mass(2, 1, "a"); got != 4 {
		t.Fatal(got)
	}
	if c, ok := l.Resident("b"); !ok || c.Carry != 5 || c.Since != 2 || c.Used != 4 || c.Full != 10 {
		t.Fatal(c, ok)
	}
	// Young till 12, b has one left of its limit; the ring gives a 6 up to 4.
	wantCheck(t, l, 11, "b", 2, deny(1, 1))
	wantCheck(t, l, 11, "b", 1, allow(0))
	wantCheck(t, l, 11, "a", 2, allow(4))
	wantCheck(t, l, 11, "a", 4, allow(0))
	wantCheck(t, l, 11, "a", 1, deny(0, 3))
	if got := l.Totals(); got != (api.Totals{Allows: 7, Denies: 3, Cells: 1, Weight: 24}) {
		t.Fatal(got)
	}
}

// P12.1: the first three answers in their order; nothing but the counts changes.
func TestRefused(t *testing.T) {
	never := deny(0, math.MaxInt64)
	bad := api.Answer{Verdict: api.BadCost}
	for _, c := range []struct {
		now, held, cost int64
		want            api.Answer
	}{
		{5, 0, 0, bad}, {5, 0, -1, bad}, {5, 0, math.MinInt64, bad}, {5, 0, 5, bad}, {5, 0, math.MaxInt64, bad},
		{api.Horizon, 7, 5, bad}, {5, 7, 0, bad},
		{api.Horizon, 0, 1, never}, {api.Horizon, 7, 4, never}, {math.MaxInt64, 0, 1, never},
		{5, 7, 1, deny(0, 7)}, {api.Horizon - 1, 1, 4, deny(0, 1)}, {5, math.MaxInt64, 1, deny(0, math.MaxInt64)},
	} {
		l := limiter.New(rule(), draws(1, 9))
		if got := l.Peek(c.now, c.held, "a", c.cost); got != c.want {
			t.Errorf("peek %v: %v", c, got)
		}
		got, events := l.Check(c.now, c.held, "a", c.cost)
		if got != c.want || len(events) != 0 {
			t.Errorf("%v: %v, %v", c, got, events)
		}
		total := api.Totals{Denies: 1}
		if c.want == bad {
			total = api.Totals{Bad: 1}
		}
		if l.Totals() != total || len(l.Top(4)) != 0 {
			t.Errorf("%v: %v, %v", c, l.Totals(), l.Top(4))
		}
		if _, ok := l.Resident("a"); ok {
			t.Error("resident")
		}
	}
	l := limiter.New(rule(), draws(1, 9))
	if got, _ := l.Check(api.Horizon-1, math.MinInt64, "a", 4); got != allow(0) {
		t.Error(got)
	}
}

// P12.1: a free cell, then the first idle one, then the lightest key's, the first one of several.
func TestWhoGives(t *testing.T) {
	r := rule()
	r.Cells, r.Limit = 3, 100
	l := limiter.New(r, draws(2, 9))
	wantCheck(t, l, 0, "a", 2, allow(2), up("a", 0))
	wantCheck(t, l, 0, "b", 1, allow(3), up("b", 0))
	wantCheck(t, l, 0, "c", 1, allow(3), up("c", 0))
	// b and c were offered 1 each: d with 1 has no more, with 2 it has; b stands ahead of c.
	wantCheck(t, l, 0, "d", 1, allow(4))
	wantCheck(t, l, 0, "d", 1, allow(3), down("b", 0), up("d", 0))
	// A unit is 1: b and c are idle from 12 on, a from 14 on.
	r.Limit = 13
	l = limiter.New(r, draws(2, 9))
	wantCheck(t, l, 0, "a", 4, allow(0), up("a", 0))
	wantCheck(t, l, 0, "b", 2, allow(2), up("b", 0))
	wantCheck(t, l, 0, "c", 2, allow(2), up("c", 0))
	wantCheck(t, l, 11, "d", 1, allow(4))
	wantCheck(t, l, 12, "e", 1, allow(3), down("b", 12), up("e", 12))
	wantCheck(t, l, 12, "f", 1, allow(3), down("c", 12), up("f", 12))
	wantCheck(t, l, 12, "g", 1, allow(4))
}

// P12.1: of a resident key that the summary hasn't, Least counts; a key's own count is less its err.
func TestWeightLessErr(t *testing.T) {
	r := rule()
	r.Track, r.Limit = 1, 100
	l := limiter.New(r, draws(3, 9))
	wantCheck(t, l, 0, "a", 1, allow(3), up("a", 0))
	// b takes a's place in the summary: count 2, err 1; Least, which stands for a, is 2.
	wantCheck(t, l, 0, "b", 1, allow(4))
	wantCheck(t, l, 0, "b", 4, allow(4))
	if got := l.Top(1); !slices.Equal(got, []api.Count{{Key: "b", N: 6, Err: 1}}) {
		t.Fatal(got)
	}
	r.Track = 2
	l = limiter.New(r, draws(3, 9))
	wantCheck(t, l, 0, "a", 1, allow(3), up("a", 0))
	wantCheck(t, l, 0, "b", 1, allow(4))
	wantCheck(t, l, 0, "c", 1, allow(4)) // c has b's place: 2, 1
	wantCheck(t, l, 0, "c", 1, allow(3), down("a", 0), up("c", 0))
}

// P12.1: the victim's bound is in the ring ahead of the estimate that the new one carries in.
func TestCarryBehindBound(t *testing.T) {
	r := rule()
	r.Rows, r.Width = 1, 1 // all keys collide
	l := limiter.New(r, nil)
	wantCheck(t, l, 0, "a", 3, allow(1), up("a", 0))
	wantCheck(t, l, 0, "b", 3, allow(4))
	wantCheck(t, l, 0, "b", 1, allow(3), down("a", 0), up("b", 0))
	if c, ok := l.Resident("b"); !ok || c.Carry != 6 || c.Used != 1 {
		t.Fatal(c, ok)
	}
}

// P12.1 of Peek: what a check would be told, without another key's cell.
func TestPeek(t *testing.T) {
	l := limiter.New(rule(), draws(4, 9))
	for cost := range int64(4) {
		if got := l.Peek(0, 0, "a", cost+1); got != allow(4) {
			t.Fatal(got)
		}
	}
	wantCheck(t, l, 0, "a", 3, allow(1), up("a", 0))
	if got := l.Peek(0, 0, "a", 1); got != allow(1) {
		t.Fatal(got)
	}
	if got := l.Peek(1, 0, "a", 3); got != deny(1, 3) {
		t.Fatal(got)
	}
	// The ring answers b.
	if got := l.Peek(1, 0, "b", 4); got != allow(4) {
		t.Fatal(got)
	}
	wantCheck(t, l, 2, "b", 2, allow(4))
	// Heavier than a, b would get the cell; a peek doesn't take it.
	if got := l.Peek(3, 0, "b", 4); got != allow(4) {
		t.Fatal(got)
	}
	if _, ok := l.Resident("b"); ok || l.Totals() != (api.Totals{Allows: 2, Cells: 1, Weight: 5}) {
		t.Fatal(l.Totals())
	}
	wantCheck(t, l, 3, "b", 4, allow(0), down("a", 3), up("b", 3))
	if c, ok := l.Resident("b"); !ok || c.Since != 3 {
		t.Fatal(c, ok)
	}
	// At 21 b is idle: a peek of another key doesn't take its cell either.
	if got := l.Peek(21, 0, "c", 4); got != allow(4) {
		t.Fatal(got)
	}
	if _, ok := l.Resident("b"); !ok || l.Totals().Cells != 1 {
		t.Fatal("gone")
	}
}

// P12.1 of Peek: the ring's retry, and the carry that a new cell would have.
func TestPeekOfCrowdedRing(t *testing.T) {
	r := rule()
	r.Rows, r.Width, r.Limit = 1, 1, 4 // all keys collide in the ring; a unit is 10
	l := limiter.New(r, nil)
	wantCheck(t, l, 0, "a", 4, allow(0), up("a", 0))
	wantCheck(t, l, 1, "b", 3, allow(1))
	if got := l.Peek(1, 0, "c", 2); got != deny(1, 11) {
		t.Fatal(got)
	}
	if got := l.Peek(13, 0, "c", 2); got != allow(4) {
		t.Fatal(got)
	}
	wantCheck(t, l, 49, "b", 1, allow(3))
	// At 50 a is idle: a new cell would carry in what b had, and be young till 60.
	if got := l.Peek(50, 0, "c", 3); got != allow(3) {
		t.Fatal(got)
	}
	if got := l.Peek(50, 0, "c", 4); got != deny(3, 10) {
		t.Fatal(got)
	}
	wantCheck(t, l, 50, "c", 4, deny(3, 10), down("a", 50), up("c", 50))
}

// P12.1 of Bytes.
func TestBytes(t *testing.T) {
	r := rule()
	r.Cells, r.Rows, r.Track = 7, 3, 9
	want := pool.Bytes(7) + ring.Bytes(r) + summary.Bytes(9) + 24*4
	if got := limiter.Bytes(r); got != want || got != 7*(69+32)+15*4+6*(16+8*3*64)+9*(69+24)+19*4+96 {
		t.Fatal(got)
	}
}

// P12.1 of Mass: the ring's time is that; later answers come of it.
func TestMassMovesTheTime(t *testing.T) {
	l := limiter.New(rule(), draws(5, 9))
	wantCheck(t, l, 0, "a", 4, allow(0), up("a", 0))
	wantCheck(t, l, 0, "b", 3, allow(4))
	for now, want := range []int64{3, 3, 3, 3, 3, 3, 3, 3, 3, 3, 3, 3, 0} {
		if got := l.Mass(int64(now), 0, "b"); got != want || l.Mass(0, 1, "b") != want || l.Mass(0, 2, "b") != 0 {
			t.Fatal(now, got)
		}
	}
}

// P12.1: a key of no byte and one of MaxKey bytes are keys as others are.
func TestShortestLongestKey(t *testing.T) {
	for _, key := range []string{"", strings.Repeat("l", api.MaxKey)} {
		l := limiter.New(rule(), draws(6, 9))
		wantCheck(t, l, 0, key, 3, allow(1), up(key, 0))
		if _, ok := l.Resident(key); !ok || !slices.Equal(l.Top(1), []api.Count{{Key: key, N: 3}}) {
			t.Fatal(l.Top(1))
		}
	}
}

// P0: a key that is too long has no cell and isn't tracked; rules that may not be end.
func TestWrongKeysAndRulesEnd(t *testing.T) {
	long := strings.Repeat("l", api.MaxKey+1)
	l := limiter.New(rule(), nil)
	for range 9 {
		if _, events := l.Check(0, 0, long, 4); len(events) != 0 {
			t.Fatal(events)
		}
	}
	if got := l.Totals(); got.Cells != 0 || got.Weight != 0 {
		t.Fatal(got)
	}
	l.Peek(0, 0, long, 1)
	edges := []int{math.MinInt, -1, 0, 1, math.MaxInt}
	for _, a := range edges {
		for _, b := range edges {
			for _, rows := range []int{math.MinInt, -1, 0, 1, 9, math.MaxInt} {
				r := api.Rule{Limit: int64(a), Window: int64(b), Burst: int64(a), Slots: b, Cells: a, Rows: rows, Width: 1, Track: b}
				l := limiter.New(r, draws(1, 3))
				limiter.Bytes(r)
				for now := range int64(3) {
					l.Check(now, 0, "a", 1)
					l.Check(now, 0, "b", int64(a))
					l.Peek(now, 0, "b", 1)
					l.Mass(now, 0, "a")
				}
				l.Totals()
				l.Top(3)
				l.Resident("a")
			}
		}
	}
}

// plain is a limiter written plainly, in the chapter's words, on a ring and a summary.
type plain struct {
	rule    api.Rule
	pace    cell.Pace
	ring    *ring.Ring
	summary *summary.Summary
	keys    []string // by the places of their cells; "" is free
	cells   []cell.Cell
	free    []int
	totals  api.Totals
}

func newPlain(r api.Rule, draws []uint64) *plain {
	rows := hash.Rows(draws, r.Rows+1)
	p := &plain{rule: r, pace: cell.Of(r), ring: ring.New(r, rows[:r.Rows]), summary: summary.New(r.Track, rows[r.Rows])}
	p.keys, p.cells = make([]string, r.Cells), make([]cell.Cell, r.Cells)
	for i := range r.Cells {
		p.free = append(p.free, r.Cells-1-i)
	}
	return p
}

func (p *plain) weight(key string) int64 {
	if n, _, ok := p.summary.Count(key); ok {
		return n
	}
	return p.summary.Least()
}

// place: that of the key whose cell another one takes; -1.
func (p *plain) place(now int64, key string) int {
	for i, c := range p.cells {
		if c.Idle(p.pace, now) {
			return i
		}
	}
	least := 0
	for i, other := range p.keys {
		if p.weight(other) < p.weight(p.keys[least]) {
			least = i
		}
	}
	n, err, ok := p.summary.Count(key)
	if !ok || p.weight(p.keys[least]) >= n-err {
		return -1
	}
	return least
}

func (p *plain) admit(now int64, key string) []api.Event {
	if slices.Contains(p.keys, key) {
		return nil
	}
	var events []api.Event
	at := -1
	if len(p.free) > 0 {
		at = p.free[len(p.free)-1]
		p.free = p.free[:len(p.free)-1]
	} else if at = p.place(now, key); at >= 0 {
		p.ring.Add(p.keys[at], p.cells[at].Bound(p.pace, now))
		events = append(events, down(p.keys[at], now))
	} else {
		return nil
	}
	p.keys[at], p.cells[at] = key, cell.New(now, p.ring.Estimate(key))
	return append(events, up(key, now))
}

func (p *plain) left(key string) int64 {
	return min(max(p.rule.Limit-p.ring.Estimate(key), 0), p.rule.Burst)
}

func (p *plain) check(now, held int64, key string, cost int64) (api.Answer, []api.Event) {
	if cost < 1 || cost > p.rule.Burst {
		p.totals.Bad++
		return api.Answer{Verdict: api.BadCost}, nil
	}
	if held > 0 {
		p.totals.Denies++
		return deny(0, held), nil
	}
	p.ring.To(now)
	p.summary.Offer(key, cost)
	events := p.admit(now, key)
	a := deny(0, 0)
	if at := slices.Index(p.keys, key); at >= 0 {
		if p.cells[at].Take(p.pace, now, cost) {
			a.Verdict = api.Allow
		} else {
			a.Retry = p.cells[at].Wait(p.pace, now, cost)
		}
		a.Remaining = p.cells[at].Room(p.pace, now)
	} else {
		if p.ring.Estimate(key)+cost <= p.rule.Limit {
			a.Verdict = api.Allow
			p.ring.Add(key, cost)
		} else {
			a.Retry = p.ring.Wait(key, cost)
		}
		a.Remaining = p.left(key)
	}
	if a.Verdict == api.Allow {
		p.totals.Allows++
	} else {
		p.totals.Denies++
	}
	return a, events
}

func (p *plain) peek(now int64, key string, cost int64) api.Answer {
	p.ring.To(now)
	c, has := cell.New(now, p.ring.Estimate(key)), len(p.free) > 0
	if at := slices.Index(p.keys, key); at >= 0 {
		c, has = p.cells[at], true
	}
	has = has || slices.ContainsFunc(p.cells, func(c cell.Cell) bool { return c.Idle(p.pace, now) })
	a := deny(p.left(key), p.ring.Wait(key, cost))
	if has {
		a = deny(c.Room(p.pace, now), c.Wait(p.pace, now, cost))
	}
	if a.Retry == 0 {
		a.Verdict = api.Allow
	}
	return a
}

// randomRule: any small one, of few cells and narrow sketches.
func randomRule(d *rand.Rand) api.Rule {
	r := api.Rule{Slots: d.Intn(5) + 1, Cells: d.Intn(4) + 1, Rows: d.Intn(3) + 1, Width: d.Intn(6) + 1, Track: d.Intn(5) + 1}
	r.Window = int64(r.Slots * (d.Intn(8) + 1))
	r.Limit = d.Int63n(12) + 1
	r.Burst = d.Int63n(r.Limit) + 1
	r.Smooth = r.Slots > 1 && d.Intn(2) == 0
	return r
}

// someKey: few keys, some of them heavy.
func someKey(d *rand.Rand) string { return "k" + strconv.Itoa(int(d.ExpFloat64()*3)) }

type allowed struct{ at, cost int64 }

// most: the greatest sum of a stretch of a length.
func most(l []allowed, length int64) int64 {
	greatest := int64(0)
	for i, first := range l {
		sum := int64(0)
		for _, a := range l[i:] {
			if a.at < first.at+length {
				sum += a.cost
			}
		}
		greatest = max(greatest, sum)
	}
	return greatest
}

// P12.1 against a plain limiter; P12.2: what was allowed is at most the limit; peeks change nothing.
func TestAgainstPlainLimiter(t *testing.T) {
	for seed := range int64(250) {
		d := rand.New(rand.NewSource(seed))
		r := randomRule(d)
		seeds := draws(seed, 3*(r.Rows+1))
		l, unpeeked, p := limiter.New(r, seeds), limiter.New(r, seeds), newPlain(r, seeds)
		now, took := int64(0), map[string][]allowed{}
		for range 400 {
			now += d.Int63n(3) * d.Int63n(1+r.Window/2)
			key, cost, held := someKey(d), d.Int63n(r.Burst+2), max(0, d.Int63n(40)-36)
			peeked := someKey(d)
			if got, want := l.Peek(now, 0, peeked, 1), p.peek(now, peeked, 1); got != want {
				t.Fatal(r, now, peeked, got, want)
			}
			got, events := l.Check(now, held, key, cost)
			want, wanted := p.check(now, held, key, cost)
			again, too := unpeeked.Check(now, held, key, cost)
			if got != want || !slices.Equal(events, wanted) || again != want || !slices.Equal(too, wanted) {
				t.Fatal(r, now, key, cost, got, events, want, wanted, again, too)
			}
			if got.Verdict == api.Allow {
				took[key] = append(took[key], allowed{now, cost})
			}
			wantState(t, l, p)
		}
		for key, list := range took {
			length := r.Window
			if r.Smooth {
				length -= r.Window / int64(r.Slots)
			}
			if got := most(list, length); got > r.Limit {
				t.Fatal(r, key, got)
			}
		}
	}
}

func wantState(t *testing.T, l *limiter.Limiter, p *plain) {
	t.Helper()
	want := p.totals
	want.Cells, want.Weight = p.rule.Cells-len(p.free), p.summary.Total()
	if got := l.Totals(); got != want {
		t.Fatal(got, want)
	}
	if got, want := l.Top(2), p.summary.Top(2); !slices.Equal(got, want) {
		t.Fatal(got, want)
	}
	for at, key := range p.keys {
		if c, ok := l.Resident(key); ok != (key != "") || c != p.cells[at] {
			t.Fatal(key, c, ok, p.cells[at])
		}
	}
	for row := range p.rule.Rows {
		if got, want := l.Mass(0, row, "k1"), p.ring.Mass(row, "k1"); got != want {
			t.Fatal(row, got, want)
		}
	}
}

// P12.3: while at most Cells keys were checked, each answer is that of a cell of its own, whatever the draws.
func TestExactWhileThereAreCells(t *testing.T) {
	for seed := range int64(100) {
		d := rand.New(rand.NewSource(seed))
		r := randomRule(d)
		r.Cells += 3
		l, cells, p, now := limiter.New(r, draws(seed, int(seed%9))), map[string]*cell.Cell{}, cell.Of(r), int64(0)
		for range 300 {
			now += d.Int63n(3) * d.Int63n(1+r.Window/2)
			key, cost := "k"+strconv.Itoa(d.Intn(r.Cells)), d.Int63n(r.Burst)+1
			if cells[key] == nil {
				c := cell.New(now, 0)
				cells[key] = &c
			}
			c := cells[key]
			want := deny(0, c.Wait(p, now, cost))
			if c.Take(p, now, cost) {
				want.Verdict = api.Allow
			}
			want.Remaining = c.Room(p, now)
			if got, _ := l.Check(now, 0, key, cost); got != want {
				t.Fatal(r, now, key, cost, got, want)
			}
		}
	}
}
