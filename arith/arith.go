// Package arith is layer 1: whole numbers that don't run over.
package arith

import (
	"math"
	"math/bits"
)

// Add: the sum modulo 2^64; is it the true one?
func Add(a, b int64) (int64, bool) {
	s := a + b
	return s, (s >= a) == (b >= 0)
}

// Sub: the difference modulo 2^64; is it the true one?
func Sub(a, b int64) (int64, bool) {
	d := a - b
	return d, (d <= a) == (b >= 0)
}

// Mul: the product modulo 2^64; is it the true one?
func Mul(a, b int64) (int64, bool) {
	p := a * b
	if a == 0 || b == 0 {
		return p, true
	}
	// The least number by -1 wraps to itself, so the signs are asked too.
	return p, p/b == a && (p < 0) == ((a < 0) != (b < 0))
}

// Sum: the true sum, or the number nearest to it.
func Sum(a, b int64) int64 {
	s, ok := Add(a, b)
	if ok {
		return s
	}
	return edge(a < 0)
}

// Product: the true product, or the number nearest to it.
func Product(a, b int64) int64 {
	p, ok := Mul(a, b)
	if ok {
		return p
	}
	return edge((a < 0) != (b < 0))
}

// edge: the least or the greatest number.
func edge(below bool) int64 {
	if below {
		return math.MinInt64
	}
	return math.MaxInt64
}

// Down: a times b by c, towards 0; false: c is 0, or it needs more than 64 bits.
func Down(a, b, c uint64) (uint64, bool) {
	q, _, ok := divided(a, b, c)
	return q, ok
}

// Up: a times b by c, to the next whole number up; false as Down.
func Up(a, b, c uint64) (uint64, bool) {
	q, left, ok := divided(a, b, c)
	if left == 0 {
		return q, ok
	}
	if q == math.MaxUint64 {
		return 0, false
	}
	return q + 1, true
}

// divided: a times b by c, and what is left; the product has 128 bits on the way.
func divided(a, b, c uint64) (uint64, uint64, bool) {
	high, low := bits.Mul64(a, b)
	if high >= c {
		return 0, 0, false
	}
	q, left := bits.Div64(high, low, c)
	return q, left, true
}

// Ceil: a by b, to the next whole number up; 0, if a is below 0 or b below 1.
func Ceil(a, b int64) int64 {
	if a < 0 || b < 1 {
		return 0
	}
	q := a / b
	if a%b != 0 {
		q++
	}
	return q
}
