package field_test

import (
	"math"
	"math/big"
	"math/rand"
	"testing"

	"weighbridge/api"
	"weighbridge/field"
)

const prime = api.Prime

// numbers below the prime: its edges and some between.
func numbers() []uint64 {
	l := []uint64{0, 1, 2, 3, 7, 1 << 30, 1<<31 - 1, 1 << 31, 1 << 60, 1<<60 - 1, prime / 2, prime/2 + 1, prime - 3, prime - 2, prime - 1}
	draws := rand.New(rand.NewSource(3))
	for range 40 {
		l = append(l, draws.Uint64()%prime>>draws.Intn(61))
	}
	return l
}

func reduced(x *big.Int) uint64 {
	return new(big.Int).Mod(x, big.NewInt(prime)).Uint64()
}

// P2.1 of Of: any number.
func TestOf(t *testing.T) {
	cases := map[uint64]uint64{
		0: 0, 1: 1, prime - 1: prime - 1, prime: 0, prime + 1: 1,
		2*prime - 1: prime - 1, 2 * prime: 0, 7 * prime: 0, 8 * prime: 0,
		1 << 63: 4, math.MaxUint64: 7,
	}
	for x, want := range cases {
		if got := field.Of(x); got != want {
			t.Errorf("Of(%d): %d, not %d", x, got, want)
		}
	}
}

// P2.1 of Add, Sub, Mul.
func TestSumsAgainstBig(t *testing.T) {
	for _, a := range numbers() {
		for _, b := range numbers() {
			x, y := big.NewInt(int64(a)), big.NewInt(int64(b))
			if got, want := field.Add(a, b), reduced(new(big.Int).Add(x, y)); got != want {
				t.Fatalf("Add(%d, %d): %d, not %d", a, b, got, want)
			}
			if got, want := field.Sub(a, b), reduced(new(big.Int).Sub(x, y)); got != want {
				t.Fatalf("Sub(%d, %d): %d, not %d", a, b, got, want)
			}
			if got, want := field.Mul(a, b), reduced(new(big.Int).Mul(x, y)); got != want {
				t.Fatalf("Mul(%d, %d): %d, not %d", a, b, got, want)
			}
		}
	}
	if got := field.Mul(1<<60, 2); got != 1 {
		t.Fatal(got)
	}
}

// P2.1 of Power: n is any number.
func TestPowerAgainstBig(t *testing.T) {
	times := []uint64{0, 1, 2, 3, 60, 61, 62, prime - 2, prime - 1, prime, 1 << 63, math.MaxUint64}
	for _, a := range numbers() {
		for _, n := range times {
			x, e := new(big.Int).SetUint64(a), new(big.Int).SetUint64(n)
			want := new(big.Int).Exp(x, e, big.NewInt(prime)).Uint64()
			if got := field.Power(a, n); got != want {
				t.Fatalf("Power(%d, %d): %d, not %d", a, n, got, want)
			}
		}
	}
	if field.Power(0, 0) != 1 || field.Power(0, 5) != 0 || field.Power(2, 61) != 1 {
		t.Fatal(field.Power(0, 0), field.Power(0, 5), field.Power(2, 61))
	}
}

// P2.1 of Inverse.
func TestInverse(t *testing.T) {
	if got := field.Inverse(0); got != 0 {
		t.Fatal(got)
	}
	for _, a := range numbers() {
		i := field.Inverse(a)
		if i >= prime || a != 0 && field.Mul(a, i) != 1 {
			t.Fatalf("Inverse(%d): %d", a, i)
		}
	}
}

// P0: numbers from the prime on are not said anything of, but they end.
func TestNumbersFromThePrimeOnEnd(t *testing.T) {
	wrong := []uint64{prime, prime + 1, 1 << 63, math.MaxUint64}
	for _, a := range wrong {
		for _, b := range wrong {
			field.Add(a, b)
			field.Sub(a, b)
			field.Mul(a, b)
			field.Power(a, b)
			field.Inverse(a)
		}
	}
}
