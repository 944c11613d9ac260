package clock_test

import (
	"math"
	"testing"

	"weighbridge/api"
	"weighbridge/clock"
)

// P11.1: a clock that was made by nobody is at 0, and holds nothing.
func TestZeroValue(t *testing.T) {
	var c clock.Clock
	if c.Now() != 0 || c.Over() || c.Held(10) != 0 || c.Held(math.MaxInt64) != 0 {
		t.Fatal(c)
	}
	c.Read(5)
	if c.Now() != 5 || c.Held(10) != 0 {
		t.Fatal(c)
	}
}

// P11.1 of Read, Now: the time never goes back.
func TestRead(t *testing.T) {
	var c clock.Clock
	for _, x := range []struct{ r, want int64 }{
		{math.MinInt64, 0}, {-1, 0}, {0, 0}, {7, 7}, {3, 7}, {-7, 7}, {8, 8}, {math.MaxInt64, math.MaxInt64}, {9, math.MaxInt64},
	} {
		if got := c.Read(x.r); got != x.want || c.Now() != x.want {
			t.Fatal(x, got, c.Now())
		}
	}
}

// P11.1 of Over: from the horizon on, till a restart.
func TestOver(t *testing.T) {
	var c clock.Clock
	for _, x := range []struct {
		r    int64
		over bool
	}{{api.Horizon - 1, false}, {api.Horizon, true}, {0, true}, {math.MaxInt64, true}} {
		c.Read(x.r)
		if c.Over() != x.over {
			t.Fatal(x)
		}
	}
	c.Restart()
	if c.Over() || c.Now() != 0 {
		t.Fatal(c)
	}
}

// P11.1 of Restart, Held: the example.
func TestHeld(t *testing.T) {
	var c clock.Clock
	c.Restart()
	c.Read(5)
	if got := c.Held(10); got != 10 {
		t.Fatal(got)
	}
	c.Read(9)
	for window, want := range map[int64]int64{0: 0, 4: 0, 5: 1, 10: 6, math.MaxInt64: math.MaxInt64 - 9} {
		if got := c.Held(window); got != want {
			t.Errorf("Held(%d): %d, not %d", window, got, want)
		}
	}
	c.Read(14)
	if c.Held(10) != 1 || c.Held(9) != 0 {
		t.Fatal(c.Held(10))
	}
	c.Read(math.MaxInt64)
	if c.Held(10) != 0 || c.Held(math.MaxInt64) != 0 {
		t.Fatal(c.Held(10))
	}
}

// P11.1 of Held: ahead of a reading the first time is 0; one below 0 is read as 0.
func TestHeldWithoutReading(t *testing.T) {
	var c clock.Clock
	c.Read(100)
	c.Restart()
	if c.Now() != 0 || c.Held(10) != 10 || c.Held(0) != 0 {
		t.Fatal(c)
	}
	c.Read(-50)
	if c.Now() != 0 || c.Held(10) != 10 {
		t.Fatal(c)
	}
	// The first reading was that, as Read answered it: 0.
	c.Read(4)
	if got := c.Held(10); got != 6 {
		t.Fatal(got)
	}
}

// P11.1: the last restart is the one that counts.
func TestTwoRestarts(t *testing.T) {
	var c clock.Clock
	c.Restart()
	c.Read(5)
	c.Read(20)
	if c.Held(10) != 0 {
		t.Fatal(c.Held(10))
	}
	c.Restart()
	if c.Now() != 0 || c.Held(10) != 10 {
		t.Fatal(c)
	}
	c.Read(2)
	c.Read(3)
	if got := c.Held(10); got != 9 {
		t.Fatal(got)
	}
}

// P11.1 of Held: a negative window holds nothing; first reading and window end at the greatest number.
func TestHeldEdges(t *testing.T) {
	var c clock.Clock
	c.Restart()
	c.Read(math.MaxInt64 - 3)
	if c.Held(3) != 3 || c.Held(4) != 3 || c.Held(math.MaxInt64) != 3 {
		t.Fatal(c.Held(4))
	}
	if c.Held(-1) != 0 || c.Held(math.MinInt64) != 0 {
		t.Fatal(c.Held(-1))
	}
}
