package arith_test

import (
	"math"
	"math/big"
	"math/rand"
	"testing"

	"weighbridge/arith"
)

const (
	least    = math.MinInt64
	greatest = math.MaxInt64
)

// signed: numbers at the edges and some between.
func signed() []int64 {
	l := []int64{least, least + 1, least / 2, -1 << 32, -1 << 31, -3, -2, -1, 0, 1, 2, 3, 10, 1 << 31, 1 << 32, greatest / 2, 1 << 62, greatest - 1, greatest}
	draws := rand.New(rand.NewSource(1))
	for range 60 {
		l = append(l, int64(draws.Uint64())>>draws.Intn(64))
	}
	return l
}

func unsigned() []uint64 {
	l := []uint64{0, 1, 2, 3, 4, 6, 10, 1<<32 - 1, 1 << 32, 1 << 61, 1<<63 - 1, 1 << 63, 3 << 62, math.MaxUint64 - 1, math.MaxUint64}
	draws := rand.New(rand.NewSource(2))
	for range 25 {
		l = append(l, draws.Uint64()>>draws.Intn(64))
	}
	return l
}

type wrapped func(a, b int64) (int64, bool)
type nearest func(a, b int64) int64
type exact func(z, a, b *big.Int) *big.Int

// told: what a true number comes to: modulo 2^64, whether that is the true one, and the nearest one.
func told(x *big.Int) (int64, bool, int64) {
	mod := new(big.Int).And(x, new(big.Int).SetUint64(math.MaxUint64))
	near := x.Int64()
	if !x.IsInt64() {
		near = greatest
		if x.Sign() < 0 {
			near = least
		}
	}
	return int64(mod.Uint64()), x.IsInt64(), near
}

// P1.1 of Add, Sub, Mul, Sum, Product.
func TestSignedAgainstBig(t *testing.T) {
	cases := []struct {
		name  string
		wrap  wrapped
		near  nearest
		exact exact
	}{
		{"Add", arith.Add, arith.Sum, (*big.Int).Add},
		{"Sub", arith.Sub, nil, (*big.Int).Sub},
		{"Mul", arith.Mul, arith.Product, (*big.Int).Mul},
	}
	for _, c := range cases {
		for _, a := range signed() {
			for _, b := range signed() {
				want, ok, near := told(c.exact(new(big.Int), big.NewInt(a), big.NewInt(b)))
				if got, is := c.wrap(a, b); got != want || is != ok {
					t.Fatalf("%s(%d, %d): %d, %t, not %d, %t", c.name, a, b, got, is, want, ok)
				}
				if c.near == nil {
					continue
				}
				if got := c.near(a, b); got != near {
					t.Fatalf("the nearest of %s(%d, %d): %d, not %d", c.name, a, b, got, near)
				}
			}
		}
	}
}

// divided: a times b by c by big numbers, down or up.
func divided(a, b, c uint64, up bool) (uint64, bool) {
	if c == 0 {
		return 0, false
	}
	product := new(big.Int).Mul(new(big.Int).SetUint64(a), new(big.Int).SetUint64(b))
	q, left := new(big.Int).QuoRem(product, new(big.Int).SetUint64(c), new(big.Int))
	if up && left.Sign() != 0 {
		q.Add(q, big.NewInt(1))
	}
	if !q.IsUint64() {
		return 0, false
	}
	return q.Uint64(), true
}

// P1.1 of Down, Up.
func TestDownUpAgainstBig(t *testing.T) {
	l := unsigned()
	for _, a := range l {
		for _, b := range l {
			for _, c := range l {
				want, ok := divided(a, b, c, false)
				if got, is := arith.Down(a, b, c); got != want || is != ok {
					t.Fatalf("Down(%d, %d, %d): %d, %t, not %d, %t", a, b, c, got, is, want, ok)
				}
				want, ok = divided(a, b, c, true)
				if got, is := arith.Up(a, b, c); got != want || is != ok {
					t.Fatalf("Up(%d, %d, %d): %d, %t, not %d, %t", a, b, c, got, is, want, ok)
				}
			}
		}
	}
}

// P1.1: the examples, and the edges where one more runs over.
func TestDownUpEdges(t *testing.T) {
	cases := []struct {
		up      bool
		a, b, c uint64
		want    uint64
		ok      bool
	}{
		{true, 1, 1, 2, 1, true},
		{false, 1 << 63, 4, 2, 0, false},
		{false, 1, 1, 2, 0, true},
		{true, 10, 10, 2, 50, true},
		{false, 5, 5, 0, 0, false},
		{true, 5, 5, 0, 0, false},
		{true, 0, 0, 0, 0, false},
		{false, math.MaxUint64, 1, 1, math.MaxUint64, true},
		{true, math.MaxUint64, 1, 1, math.MaxUint64, true},
		{false, math.MaxUint64, 3, 3, math.MaxUint64, true},
		{false, 1 << 63, 1 << 63, 1 << 62, 0, false},
		{true, 1 << 63, 1 << 63, 1 << 62, 0, false},
	}
	for _, c := range cases {
		f := arith.Down
		if c.up {
			f = arith.Up
		}
		if got, ok := f(c.a, c.b, c.c); got != c.want || ok != c.ok {
			t.Errorf("up %t of %d, %d, %d: %d, %t, not %d, %t", c.up, c.a, c.b, c.c, got, ok, c.want, c.ok)
		}
	}
}

// P1.1: Up is false where Down still tells 2^64 - 1.
func TestUpRunsOverBehindTheGreatest(t *testing.T) {
	// 2^64 - 1 whole, and with nothing left.
	const a, b, c = 1<<32 + 1, 1<<32 - 1, 1
	if got, ok := arith.Up(a, b, c); !ok || got != math.MaxUint64 {
		t.Fatal(got, ok)
	}
	// 2^65 - 1 is 31 times 1190112520884487201.
	if got, ok := arith.Down(31, 1190112520884487201, 2); !ok || got != math.MaxUint64 {
		t.Fatal(got, ok)
	}
	if got, ok := arith.Up(31, 1190112520884487201, 2); ok || got != 0 {
		t.Fatal(got, ok)
	}
}

// P1.1 of Ceil.
func TestCeil(t *testing.T) {
	cases := []struct{ a, b, want int64 }{
		{10, 3, 4}, {9, 3, 3}, {1, 3, 1}, {0, 3, 0}, {0, 1, 0},
		{-1, 3, 0}, {least, 1, 0}, {5, 0, 0}, {5, -1, 0}, {5, least, 0}, {-5, -5, 0},
		{greatest, 1, greatest}, {greatest, 2, 1 << 62}, {greatest, greatest, 1},
		{greatest - 1, greatest, 1}, {greatest, greatest - 1, 2},
	}
	for _, c := range cases {
		if got := arith.Ceil(c.a, c.b); got != c.want {
			t.Errorf("Ceil(%d, %d): %d, not %d", c.a, c.b, got, c.want)
		}
	}
}
