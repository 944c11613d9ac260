package audit_test

import (
	"math"
	"math/rand"
	"slices"
	"strconv"
	"testing"

	"weighbridge/audit"
)

var a = audit.Who{Rule: 1, Key: "a"}

// P20.1: the example.
func TestMost(t *testing.T) {
	l := audit.New()
	l.Add(a, 1, 2)
	l.Add(a, 3, 2)
	for length, want := range map[int64]int64{math.MinInt64: 0, -1: 0, 0: 0, 1: 2, 2: 2, 3: 4, 4: 4, math.MaxInt64: 4} {
		if got := l.Most(a, length); got != want {
			t.Errorf("Most of %d: %d, not %d", length, got, want)
		}
	}
}

// P20.1 of Sum: from a time on, ahead of another one.
func TestSum(t *testing.T) {
	l := audit.New()
	l.Add(a, 3, 2)
	l.Add(a, 1, 5)
	l.Add(a, 3, 10)
	l.Add(a, -7, 100)
	l.Add(audit.Who{Rule: 2, Key: "a"}, 1, 1000)
	for _, c := range []struct{ from, to, want int64 }{
		{1, 3, 5}, {1, 4, 17}, {2, 4, 12}, {3, 4, 12}, {4, 5, 0}, {-7, 1, 100}, {-6, 1, 0},
		{math.MinInt64, math.MaxInt64, 117}, {3, 3, 0}, {4, 1, 0}, {math.MaxInt64, math.MinInt64, 0},
	} {
		if got := l.Sum(a, c.from, c.to); got != c.want {
			t.Errorf("%v: %d", c, got)
		}
	}
	if got := l.Sum(audit.Who{Rule: 2, Key: "b"}, 0, 9); got != 0 || len(l.All()) != 2 {
		t.Error("one of whom nothing is known", got)
	}
}

// P20.1: sums and ends of stretches end at the greatest number.
func TestGreatest(t *testing.T) {
	l := audit.New()
	l.Add(a, 5, math.MaxInt64)
	l.Add(a, 6, math.MaxInt64)
	l.Add(a, 9, 1)
	if l.Sum(a, 0, 10) != math.MaxInt64 || l.Most(a, 10) != math.MaxInt64 || l.Most(a, 1) != math.MaxInt64 {
		t.Error(l.Sum(a, 0, 10), l.Most(a, 10))
	}
	b := audit.Who{Key: "b"}
	l.Add(b, math.MaxInt64-1, 3)
	l.Add(b, math.MaxInt64, 5) // in no stretch
	l.Add(b, math.MinInt64, 1)
	if got := l.Most(b, math.MaxInt64); got != 3 || l.Most(b, 2) != 3 || l.Sum(b, 0, math.MaxInt64) != 3 {
		t.Error(got)
	}
	if got := l.Sum(b, math.MinInt64, math.MaxInt64); got != 4 {
		t.Error(got)
	}
}

// P20.1 of All: by rules, then keys, rising; one to whom a cost of 0 was allowed, too.
func TestAll(t *testing.T) {
	l := audit.New()
	if len(l.All()) != 0 {
		t.Fatal(l.All())
	}
	want := []audit.Who{{-1, "z"}, {0, ""}, {0, "\x00"}, {0, "a"}, {0, "aa"}, {0, "b"}, {0, "\xff"}, {2, "a"}, {10, "A"}, {10, "a"}}
	d := rand.New(rand.NewSource(21))
	for range 3 {
		for _, i := range d.Perm(len(want)) {
			l.Add(want[i], d.Int63(), 0)
		}
	}
	got := l.All()
	if !slices.Equal(got, want) {
		t.Fatal(got)
	}
	got[0].Key = "changed"
	if !slices.Equal(l.All(), want) {
		t.Fatal("shared")
	}
	if l.Most(want[0], 5) != 0 {
		t.Fatal("a cost of 0")
	}
}

// P20.1 of a nil Ledger; P0: of one that nobody made, and of costs below 0, nothing is said but that they end.
func TestNil(t *testing.T) {
	var l *audit.Ledger
	l.Add(a, 1, 1)
	if len(l.All()) != 0 || l.Sum(a, 0, 9) != 0 || l.Most(a, 9) != 0 {
		t.Fatal("a nil ledger has something")
	}
	l = new(audit.Ledger)
	l.Add(a, 1, -1)
	l.Add(a, 1, math.MinInt64)
	l.Add(a, 1, math.MaxInt64)
	l.All()
	l.Sum(a, 0, 9)
	l.Most(a, 9)
}

type grant struct{ at, cost int64 }

func sum(l []grant, from, to int64) int64 {
	s := int64(0)
	for _, g := range l {
		if g.at >= from && g.at < to {
			s += g.cost
		}
	}
	return s
}

// P20.1 against sums of every stretch there is.
func TestAgainstPlainSums(t *testing.T) {
	d := rand.New(rand.NewSource(22))
	for range 200 {
		l, plain := audit.New(), map[audit.Who][]grant{}
		for range d.Intn(60) {
			w := audit.Who{Rule: d.Intn(2), Key: strconv.Itoa(d.Intn(2))}
			g := grant{d.Int63n(30), d.Int63n(5)}
			l.Add(w, g.at, g.cost)
			plain[w] = append(plain[w], g)
		}
		for w, list := range plain {
			for length := range int64(35) {
				most := int64(0)
				for from := int64(-35); from < 35 && length > 0; from++ {
					most = max(most, sum(list, from, from+length))
					if got, want := l.Sum(w, from, from+length), sum(list, from, from+length); got != want {
						t.Fatal(list, from, length, got, want)
					}
				}
				if got := l.Most(w, length); got != most {
					t.Fatal(list, length, got, most)
				}
			}
		}
	}
}
