package slot_test

import (
	"math"
	"math/rand"
	"strconv"
	"testing"

	"weighbridge/hash"
	"weighbridge/slot"
)

// rows: n functions, more than a rule may have, too.
func rows(n int) []hash.Row {
	draws := rand.New(rand.NewSource(int64(n)))
	l := make([]hash.Row, 0, n)
	for range n {
		l = append(l, hash.Rows([]uint64{draws.Uint64(), draws.Uint64(), draws.Uint64()}, 1)...)
	}
	return l
}

// P6.1 of Bytes.
func TestBytes(t *testing.T) {
	cases := []struct {
		rows, width int
		want        int64
	}{
		{1, 1, 8}, {8, 4096, 262144}, {0, 5, 0}, {5, 0, 0}, {3, 7, 168},
		{math.MaxInt, math.MaxInt, math.MaxInt64}, {1, 1 << 61, math.MaxInt64},
	}
	for _, c := range cases {
		if got := slot.Bytes(c.rows, c.width); got != c.want {
			t.Errorf("%d, %d: %d, not %d", c.rows, c.width, got, c.want)
		}
	}
}

// P6.1 of New, and of a nil Slot; a width whose counters nobody has is none.
func TestNil(t *testing.T) {
	for _, s := range []*slot.Slot{
		slot.New(nil, 4), slot.New([]hash.Row{}, 4), slot.New(rows(2), 0), slot.New(rows(2), -1),
		slot.New(rows(2), math.MinInt), slot.New(rows(1), math.MaxInt), slot.New(rows(8), 1<<61),
	} {
		if s != nil {
			t.Fatal("a slot of nothing")
		}
		s.Add("a", 5)
		s.Clear()
		if s.Count(0, "a") != 0 || s.Least("a") != 0 {
			t.Fatal("a nil slot counts")
		}
	}
}

// P6.1 of Add, Least, Count: the example, and costs below 1.
func TestAdd(t *testing.T) {
	s := slot.New(rows(3), 100)
	s.Add("a", 5)
	if got := s.Least("a"); got != 5 {
		t.Fatal(got)
	}
	for _, cost := range []int64{0, -1, math.MinInt64} {
		s.Add("a", cost)
	}
	s.Add("a", 2)
	for row := range 3 {
		if got := s.Count(row, "a"); got != 7 {
			t.Fatal(row, got)
		}
	}
	for _, row := range []int{math.MinInt, -1, 3, math.MaxInt} {
		if got := s.Count(row, "a"); got != 0 {
			t.Fatal(row, got)
		}
	}
}

// P6.1 of Add: it ends at the greatest number.
func TestGreatest(t *testing.T) {
	s := slot.New(rows(2), 3)
	s.Add("a", math.MaxInt64)
	s.Add("a", 1)
	s.Add("a", math.MaxInt64)
	if got := s.Least("a"); got != math.MaxInt64 {
		t.Fatal(got)
	}
}

// P6.1 of Clear.
func TestClear(t *testing.T) {
	s := slot.New(rows(9), 2)
	for i := range 50 {
		s.Add(strconv.Itoa(i), int64(i))
	}
	s.Clear()
	for i := range 50 {
		for row := range 9 {
			if got := s.Count(row, strconv.Itoa(i)); got != 0 {
				t.Fatal(row, i, got)
			}
		}
	}
	s.Add("1", 3)
	if got := s.Least("1"); got != 3 {
		t.Fatal(got)
	}
}

// Rule 4: the functions that are handed in are neither changed nor kept.
func TestRowsAreNotKept(t *testing.T) {
	for _, n := range []int{1, 8, 9, 12} {
		l, same := rows(n), rows(n)
		s := slot.New(l, 50)
		for i := range 20 {
			s.Add(strconv.Itoa(i), 7)
		}
		for i := range l {
			if l[i] != same[i] {
				t.Fatal("changed", i)
			}
			l[i] = hash.Row{}
		}
		o := slot.New(same, 50)
		for i := range 20 {
			o.Add(strconv.Itoa(i), 7)
		}
		for i := range 20 {
			for row := range n {
				if got, want := s.Count(row, strconv.Itoa(i)), o.Count(row, strconv.Itoa(i)); got != want {
					t.Fatal("kept", n, row, i, got, want)
				}
			}
		}
	}
}

// plain is a sketch written plainly: of each row counters by their buckets.
type plain struct {
	rows   []hash.Row
	width  int
	counts []map[int]int64
}

func (p plain) least(key string) int64 {
	least := int64(math.MaxInt64)
	for i, r := range p.rows {
		least = min(least, p.counts[i][r.Bucket(key, p.width)])
	}
	return least
}

func (p plain) add(key string, cost int64) {
	floor := p.least(key) + cost
	for i, r := range p.rows {
		if b := r.Bucket(key, p.width); p.counts[i][b] < floor {
			p.counts[i][b] = floor
		}
	}
}

// P6.1 against a plain sketch; P6.2: Least is never below what was added.
func TestAgainstPlainSketch(t *testing.T) {
	for _, size := range []struct{ rows, width int }{{1, 1}, {1, 5}, {2, 3}, {3, 7}, {8, 4}, {9, 4}, {13, 3}} {
		draws := rand.New(rand.NewSource(9))
		l := rows(size.rows)
		s := slot.New(l, size.width)
		p := plain{l, size.width, make([]map[int]int64, size.rows)}
		for i := range p.counts {
			p.counts[i] = map[int]int64{}
		}
		added := map[string]int64{}
		for range 500 {
			key, cost := strconv.Itoa(draws.Intn(20)), draws.Int63n(9)+1
			s.Add(key, cost)
			p.add(key, cost)
			added[key] += cost
			for key, sum := range added {
				if got := s.Least(key); got != p.least(key) || got < sum {
					t.Fatal(size, key, got, p.least(key), sum)
				}
				for row, r := range l {
					if got, want := s.Count(row, key), p.counts[row][r.Bucket(key, size.width)]; got != want {
						t.Fatal(size, key, row, got, want)
					}
				}
			}
		}
	}
}
