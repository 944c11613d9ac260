package hash_test

import (
	"math"
	"math/big"
	"math/rand"
	"strings"
	"testing"

	"weighbridge/api"
	"weighbridge/hash"
)

const prime = api.Prime

func some(seed int64, n int) []uint64 {
	draws := rand.New(rand.NewSource(seed))
	l := make([]uint64, n)
	for i := range l {
		l[i] = draws.Uint64()
	}
	return l
}

// P3.1 of Rows: X and A from 1 on, B from 0 on, three draws of each row.
func TestRowsTakeThreeDrawsEach(t *testing.T) {
	draws := []uint64{0, prime - 2, prime - 1, prime - 1, prime, prime, math.MaxUint64, math.MaxUint64, math.MaxUint64}
	want := []hash.Row{
		{X: 1, A: prime - 1, B: prime - 1},
		{X: 1, A: 2, B: 0},
		{X: 16, A: 16, B: 7},
	}
	rows := hash.Rows(draws, 3)
	if len(rows) != 3 {
		t.Fatal(rows)
	}
	for i, r := range rows {
		if r != want[i] {
			t.Errorf("row %d: %v, not %v", i, r, want[i])
		}
	}
}

// P3.1 of Rows: a draw that isn't there is 0.
func TestRowsWithoutDraws(t *testing.T) {
	for n, draws := range [][]uint64{nil, {4}, {4, 5}, {4, 5, 6}, {4, 5, 6, 7}} {
		want := []hash.Row{{X: 1, A: 1}, {X: 1, A: 1}}
		if n > 0 {
			want[0].X = 5
		}
		if n > 1 {
			want[0].A = 6
		}
		if n > 2 {
			want[0].B = 6
		}
		if n > 3 {
			want[1].X = 8
		}
		rows := hash.Rows(draws, 2)
		if len(rows) != 2 || rows[0] != want[0] || rows[1] != want[1] {
			t.Errorf("of %v: %v, not %v", draws, rows, want)
		}
	}
}

// P3.1 of Rows: 0 up to MaxRows and one, the same rows whatever comes behind them.
func TestHowManyRows(t *testing.T) {
	draws := some(4, 100)
	all := hash.Rows(draws, api.MaxRows+1)
	for n, want := range map[int]int{math.MinInt: 0, -1: 0, 0: 0, 1: 1, 2: 2, 8: 8, 9: 9, 10: 9, math.MaxInt: 9} {
		rows := hash.Rows(draws, n)
		if len(rows) != want {
			t.Fatalf("of %d: %d", n, len(rows))
		}
		for i, r := range rows {
			if r != all[i] {
				t.Fatalf("of %d: row %d: %v, not %v", n, i, r, all[i])
			}
		}
	}
}

// Rule 4: the draws stay as they are.
func TestDrawsStay(t *testing.T) {
	draws, same := some(5, 27), some(5, 27)
	rows := hash.Rows(draws, 9)
	draws[0]++
	if again := hash.Rows(same, 9); rows[0] != again[0] {
		t.Fatal("kept")
	}
	draws[0]--
	for i := range draws {
		if draws[i] != same[i] {
			t.Fatal("changed", i)
		}
	}
}

// told: a key's number by big numbers, one byte after the other.
func told(r hash.Row, key string) uint64 {
	p := big.NewInt(prime)
	x, a, b := new(big.Int).SetUint64(r.X), new(big.Int).SetUint64(r.A), new(big.Int).SetUint64(r.B)
	h := big.NewInt(int64(len(key)) + 1)
	for at := 0; at < len(key); at += 7 {
		h.Mul(h, x)
		h.Add(h, new(big.Int).SetBytes([]byte(key[at:min(at+7, len(key))])))
		h.Mod(h, p)
	}
	h.Mul(h, a)
	h.Add(h, b)
	return h.Mod(h, p).Uint64()
}

func keys() []string {
	l := []string{"", "a", "\x00", "\x00\x00", "\xff\xff\xff\xff\xff\xff\xff", "\xff\xff\xff\xff\xff\xff\xff\xff"}
	for n := 1; n <= 70; n++ {
		l = append(l, strings.Repeat("kä\x00", n)[:n])
	}
	return append(l, strings.Repeat("\xff", 1000), strings.Repeat("long ", 5000))
}

// P3.1 of Of: the example, and any key against big numbers.
func TestOf(t *testing.T) {
	if got := hash.Rows(nil, 1)[0].Of("a"); got != 99 {
		t.Fatal(got)
	}
	rows := append(hash.Rows(some(6, 27), 9),
		hash.Row{X: 1, A: 1}, hash.Row{X: prime - 1, A: prime - 1, B: prime - 1}, hash.Row{X: 2, A: 1, B: prime - 1})
	for _, r := range rows {
		for _, key := range keys() {
			if got, want := r.Of(key), told(r, key); got != want {
				t.Fatalf("%v of %q: %d, not %d", r, key, got, want)
			}
		}
	}
}

// P3.1 of Place: its edges.
func TestPlaceEdges(t *testing.T) {
	cases := []struct {
		h    uint64
		n    int
		want int
	}{
		{0, 1, 0}, {prime - 1, 1, 0}, {prime - 1, 10, 9}, {prime / 2, 2, 0}, {prime/2 + 1, 2, 1},
		{prime / 3, 3, 0}, {prime/3 + 1, 3, 1},
		{5, 0, 0}, {prime - 1, 0, 0}, {prime - 1, -1, 0}, {prime - 1, math.MinInt, 0},
	}
	for _, c := range cases {
		if got := hash.Place(c.h, c.n); got != c.want {
			t.Errorf("Place(%d, %d): %d, not %d", c.h, c.n, got, c.want)
		}
	}
}

// P3.1 of Place, against big numbers.
func TestPlaceAgainstBig(t *testing.T) {
	for _, h := range []uint64{0, 1, 2, prime / 2, prime - 2, prime - 1, 1 << 60} {
		for _, n := range []int{1, 2, 3, 129, 4096, 1 << 40, math.MaxInt - 1, math.MaxInt} {
			x := new(big.Int).Mul(new(big.Int).SetUint64(h), big.NewInt(int64(n)))
			want := int(x.Div(x, big.NewInt(prime)).Int64())
			if got := hash.Place(h, n); got != want {
				t.Errorf("Place(%d, %d): %d, not %d", h, n, got, want)
			}
		}
	}
}

// P0: of what isn't below the prime, and of rows that no draws make, nothing is said; they end, in a place that is.
func TestWrongNumbersHaveAPlace(t *testing.T) {
	for _, h := range []uint64{prime, prime + 1, 1 << 63, math.MaxUint64} {
		for _, n := range []int{1, 7, math.MaxInt} {
			if p := hash.Place(h, n); p < 0 || p >= n {
				t.Errorf("Place(%d, %d): %d", h, n, p)
			}
			r := hash.Row{X: h, A: h, B: h}
			if p := r.Bucket("key", n); p < 0 || p >= n {
				t.Errorf("Bucket of %v: %d", r, p)
			}
		}
	}
	if p := (hash.Row{}).Bucket("key", 5); p != 0 {
		t.Error(p)
	}
}

// P3.1 of Bucket: the place of the key's number.
func TestBucket(t *testing.T) {
	for _, r := range hash.Rows(some(7, 27), 9) {
		for _, key := range keys() {
			for _, n := range []int{-1, 0, 1, 2, 129, 4096, math.MaxInt} {
				if got, want := r.Bucket(key, n), hash.Place(r.Of(key), n); got != want {
					t.Fatalf("%v of %q, %d: %d, not %d", r, key, n, got, want)
				}
			}
		}
	}
}
