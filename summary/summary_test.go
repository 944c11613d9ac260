package summary_test

import (
	"math"
	"math/rand"
	"slices"
	"strconv"
	"strings"
	"testing"

	"weighbridge/api"
	"weighbridge/hash"
	"weighbridge/index"
	"weighbridge/keys"
	"weighbridge/summary"
)

// functions: one of draws, and one by which all keys collide.
func functions() []hash.Row {
	return []hash.Row{hash.Rows([]uint64{0x9E3779B97F4A7C15, 0xD1B54A32D192ED03, 5}, 1)[0], {X: 1, A: 0, B: 3}}
}

func list(s *summary.Summary) []api.Count {
	var l []api.Count
	s.All(func(c api.Count) bool {
		l = append(l, c)
		return true
	})
	return l
}

func want(t *testing.T, s *summary.Summary, l ...api.Count) {
	t.Helper()
	if got := list(s); !slices.Equal(got, l) {
		t.Fatalf("%v, not %v", got, l)
	}
	if s.Len() != len(l) {
		t.Fatal(s.Len())
	}
	for _, c := range l {
		if n, err, ok := s.Count(c.Key); n != c.N || err != c.Err || !ok {
			t.Fatal(c.Key, n, err, ok)
		}
	}
}

// P8.1: the example.
func TestOneKey(t *testing.T) {
	for _, r := range functions() {
		s := summary.New(1, r)
		want(t, s)
		s.Offer("a", 3)
		want(t, s, api.Count{Key: "a", N: 3})
		s.Offer("b", 1)
		want(t, s, api.Count{Key: "b", N: 4, Err: 3})
		if n, err, ok := s.Count("a"); n != 0 || err != 0 || ok || s.Total() != 4 || s.Least() != 4 {
			t.Fatal(n, err, ok, s.Total(), s.Least())
		}
	}
}

// P8.1 of New, and of a nil Summary.
func TestNil(t *testing.T) {
	for _, n := range []int{math.MinInt, -1, 0, api.MaxTrack + 1, math.MaxInt} {
		s := summary.New(n, hash.Row{})
		if s != nil {
			t.Fatal(n)
		}
		s.Offer("a", 1)
		s.Clear()
		want(t, s)
		if n, err, ok := s.Count("a"); n != 0 || err != 0 || ok || s.Least() != 0 || s.Total() != 0 || len(s.Top(1)) != 0 {
			t.Fatal("a nil summary has something")
		}
	}
	if summary.New(1, hash.Row{}) == nil || summary.New(api.MaxTrack, hash.Row{}) == nil {
		t.Fatal("nil")
	}
}

// P8.1 of Bytes.
func TestBytes(t *testing.T) {
	for n, want := range map[int]int64{1: 69 + 12 + 24, 64: 64*69 + 129*4 + 64*24} {
		if got := summary.Bytes(n); got != want || got != keys.Bytes(n)+index.Bytes(n)+24*int64(n) {
			t.Error(n, got)
		}
	}
}

// P8.1 of the order: a key goes ahead of those whose counts are less, and stays behind those that have as much.
func TestOrder(t *testing.T) {
	for _, r := range functions() {
		s := summary.New(3, r)
		s.Offer("a", 2)
		s.Offer("b", 2)
		s.Offer("c", 2)
		want(t, s, api.Count{Key: "a", N: 2}, api.Count{Key: "b", N: 2}, api.Count{Key: "c", N: 2})
		s.Offer("c", 1)
		want(t, s, api.Count{Key: "c", N: 3}, api.Count{Key: "a", N: 2}, api.Count{Key: "b", N: 2})
		s.Offer("b", 1)
		want(t, s, api.Count{Key: "c", N: 3}, api.Count{Key: "b", N: 3}, api.Count{Key: "a", N: 2})
		// The last one goes, and d has its count.
		s.Offer("d", 1)
		want(t, s, api.Count{Key: "c", N: 3}, api.Count{Key: "b", N: 3}, api.Count{Key: "d", N: 3, Err: 2})
		s.Offer("d", 5)
		want(t, s, api.Count{Key: "d", N: 8, Err: 2}, api.Count{Key: "c", N: 3}, api.Count{Key: "b", N: 3})
		s.Offer("b", 2)
		want(t, s, api.Count{Key: "d", N: 8, Err: 2}, api.Count{Key: "b", N: 5}, api.Count{Key: "c", N: 3})
	}
}

// P8.1 of Least: the last one's, if it is full.
func TestLeast(t *testing.T) {
	s := summary.New(2, functions()[0])
	for i, c := range []struct {
		key  string
		want int64
	}{{"a", 0}, {"a", 0}, {"b", 1}, {"c", 2}, {"c", 2}} {
		s.Offer(c.key, 1)
		if got := s.Least(); got != c.want {
			t.Fatal(i, got, c.want)
		}
	}
}

// P8.1 of Top: k is brought to 1 up to n.
func TestTop(t *testing.T) {
	s := summary.New(3, functions()[0])
	if got := s.Top(2); len(got) != 0 {
		t.Fatal(got)
	}
	s.Offer("a", 1)
	if got := s.Top(3); len(got) != 1 {
		t.Fatal(got)
	}
	s.Offer("b", 2)
	s.Offer("c", 3)
	all := []api.Count{{Key: "c", N: 3}, {Key: "b", N: 2}, {Key: "a", N: 1}}
	for k, n := range map[int]int{math.MinInt: 1, -1: 1, 0: 1, 1: 1, 2: 2, 3: 3, 4: 3, 255: 3, math.MaxInt: 3} {
		if got := s.Top(k); !slices.Equal(got, all[:n]) {
			t.Errorf("Top(%d): %v", k, got)
		}
	}
	top := s.Top(1)
	top[0].N = 99
	want(t, s, all...)
}

// P8.1 of All: it ends where yield says false; without a yield there is nothing.
func TestAllEnds(t *testing.T) {
	s := summary.New(3, functions()[0])
	for i := range 3 {
		s.Offer(strconv.Itoa(i), int64(9-i))
	}
	for stop := 1; stop <= 3; stop++ {
		calls := 0
		s.All(func(c api.Count) bool {
			calls++
			return calls < stop
		})
		if calls != stop {
			t.Fatal(calls, stop)
		}
	}
	s.All(nil)
	// A summary that is cleared on the way has no more.
	calls := 0
	for range s.All {
		calls++
		s.Clear()
	}
	if calls != 1 {
		t.Fatal(calls)
	}
}

// P8.1 of Offer: weights that aren't 1 to below Horizon, and keys that are too long.
func TestWrongOffers(t *testing.T) {
	s := summary.New(2, functions()[0])
	long := strings.Repeat("l", api.MaxKey)
	for _, weight := range []int64{math.MinInt64, -1, 0, api.Horizon, api.Horizon + 1, math.MaxInt64} {
		s.Offer("a", weight)
	}
	s.Offer(long+"l", 1)
	want(t, s)
	if s.Total() != 0 {
		t.Fatal(s.Total())
	}
	s.Offer(long, 1)
	s.Offer("", 2)
	s.Offer("a", api.Horizon)
	s.Offer(long+"l", 1)
	want(t, s, api.Count{Key: "", N: 2}, api.Count{Key: long, N: 1})
	if s.Total() != 3 {
		t.Fatal(s.Total())
	}
	if _, _, ok := s.Count(long + "l"); ok {
		t.Fatal("too long")
	}
}

// P8.1: an epoch ends ahead of the offer by which all would be Horizon or more.
func TestEpoch(t *testing.T) {
	s := summary.New(2, functions()[0])
	s.Offer("a", api.Horizon-1)
	want(t, s, api.Count{Key: "a", N: api.Horizon - 1})
	s.Offer("b", 1)
	want(t, s, api.Count{Key: "b", N: 1})
	if s.Total() != 1 {
		t.Fatal(s.Total())
	}
	s.Offer("a", api.Horizon-2)
	want(t, s, api.Count{Key: "a", N: api.Horizon - 2}, api.Count{Key: "b", N: 1})
	if s.Total() != api.Horizon-1 {
		t.Fatal(s.Total())
	}
	s.Offer("a", api.Horizon-1)
	want(t, s, api.Count{Key: "a", N: api.Horizon - 1})
	s.Clear()
	want(t, s)
	if s.Total() != 0 || s.Least() != 0 {
		t.Fatal(s.Total(), s.Least())
	}
}

// plain is a summary written plainly, in the chapter's words.
type plain struct {
	n    int
	list []api.Count
}

func (p *plain) offer(key string, weight int64) {
	at := slices.IndexFunc(p.list, func(c api.Count) bool { return c.Key == key })
	c := api.Count{Key: key}
	if at < 0 && len(p.list) == p.n {
		last := p.list[p.n-1].N
		p.list = p.list[:p.n-1]
		c.N, c.Err = last, last
	}
	if at >= 0 {
		c = p.list[at]
		p.list = slices.Delete(p.list, at, at+1)
	} else {
		at = len(p.list)
	}
	c.N += weight
	for at > 0 && p.list[at-1].N < c.N {
		at--
	}
	p.list = slices.Insert(p.list, at, c)
}

// P8.1 against a plain summary; P8.2 against what was offered.
func TestAgainstPlainSummary(t *testing.T) {
	for _, n := range []int{1, 2, 3, 7, 64} {
		for seed, r := range functions() {
			draws := rand.New(rand.NewSource(int64(seed)))
			s, p, offered, total := summary.New(n, r), &plain{n: n}, map[string]int64{}, int64(0)
			for range 1500 {
				key := strconv.Itoa(int(draws.ExpFloat64() * float64(n)))
				weight := draws.Int63n(5) + 1
				s.Offer(key, weight)
				p.offer(key, weight)
				offered[key] += weight
				total += weight
				want(t, s, p.list...)
				if s.Total() != total {
					t.Fatal(s.Total(), total)
				}
				wantBounds(t, s, n, offered, total)
			}
		}
	}
}

func wantBounds(t *testing.T, s *summary.Summary, n int, offered map[string]int64, total int64) {
	t.Helper()
	for c := range s.All {
		if o := offered[c.Key]; o > c.N || o < c.N-c.Err || c.Err*int64(n) > total {
			t.Fatal(n, c, o, total)
		}
	}
	for _, k := range []int{1, 2, n} {
		k = min(k, n)
		top := s.Top(k)
		for key, o := range offered {
			if o*int64(k) > total && !slices.ContainsFunc(top, func(c api.Count) bool { return c.Key == key }) {
				t.Fatal(n, k, key, o, total)
			}
		}
	}
}
