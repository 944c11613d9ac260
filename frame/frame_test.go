package frame_test

import (
	"bytes"
	"math"
	"math/rand"
	"strings"
	"testing"

	"weighbridge/api"
	"weighbridge/frame"
)

var long = strings.Repeat("l", api.MaxKey)

// requests: some that may be of 256 rules, with their bytes.
func requests() map[api.Request]string {
	return map[api.Request]string{
		{Op: api.Stats}:                "\xa7\x01\x00\x02\x03\x00",
		{Op: api.Stats, Rule: 255}:     "\xa7\x01\x00\x02\x03\xff",
		{Op: api.Top, Rule: 7}:         "\xa7\x01\x00\x03\x04\x07\x00",
		{Op: api.Top, Rule: 7, K: 255}: "\xa7\x01\x00\x03\x04\x07\xff",
		{Op: api.Check}:                "\xa7\x01\x00\x07\x01\x00\x00\x00\x00\x00\x00",
		{Op: api.Peek, Rule: 2, Cost: 1<<32 - 1, Key: "k\x00\xff"}: "\xa7\x01\x00\x0a\x02\x02\xff\xff\xff\xff\x03k\x00\xff",
		{Op: api.Check, Rule: 1, Cost: 0x01020304, Key: "ab"}:      "\xa7\x01\x00\x09\x01\x01\x01\x02\x03\x04\x02ab",
		{Op: api.Check, Cost: 9, Key: long}:                        "\xa7\x01\x00\x47\x01\x00\x00\x00\x00\x09\x40" + long,
	}
}

// P13.1 of Encode, Parse; P13.2: requests come back.
func TestRequestsAsBytes(t *testing.T) {
	for q, want := range requests() {
		if got := frame.Encode(q); string(got) != want {
			t.Errorf("%v: %x, not %x", q, got, want)
		}
		got, n, e := frame.Parse([]byte(want+"more"), q.Rule+1)
		if got != q || n != len(want) || e != api.OK {
			t.Errorf("%x: %v, %d, %d", want, got, n, e)
		}
		for cut := range len(want) {
			if got, n, e := frame.Parse([]byte(want[:cut]), 256); got != (api.Request{}) || n != 0 || e != api.OK {
				t.Errorf("%x: %v, %d, %d", want[:cut], got, n, e)
			}
		}
	}
}

// P13.1 of Right.
func TestRight(t *testing.T) {
	for q := range requests() {
		for rules, want := range map[int]bool{math.MinInt: false, -1: false, 0: false, q.Rule: false, q.Rule + 1: true, 256: true, math.MaxInt: true} {
			if got := frame.Right(q, rules); got != want {
				t.Errorf("%v of %d: %t", q, rules, got)
			}
		}
	}
	for _, q := range []api.Request{
		{}, {Op: 5}, {Op: -1}, {Op: api.Fault}, {Op: api.Check | 0x80}, {Op: math.MinInt}, {Op: 257},
		{Op: api.Check, Rule: -1}, {Op: api.Stats, Rule: 256}, {Op: api.Stats, Rule: math.MinInt}, {Op: api.Stats, Rule: math.MaxInt - 1},
		{Op: api.Check, Key: long + "l"}, {Op: api.Peek, Key: long + "l"}, {Op: api.Check, K: 1}, {Op: api.Peek, K: -1},
		{Op: api.Stats, Cost: 1}, {Op: api.Stats, Key: "k"}, {Op: api.Stats, K: 1}, {Op: api.Stats, K: -1},
		{Op: api.Top, Cost: 1}, {Op: api.Top, Key: "k"}, {Op: api.Top, K: -1}, {Op: api.Top, K: 256}, {Op: api.Top, K: math.MaxInt},
	} {
		if frame.Right(q, math.MaxInt) {
			t.Errorf("%v may be", q)
		}
		if got := frame.Encode(q); len(got) != 0 {
			t.Errorf("%v: %x", q, got)
		}
	}
}

// wanted: the fault of the last byte of some that begin a request, in the chapter's words.
func wanted(b []byte, rules int) api.Errno {
	at, c := len(b)-1, int(b[len(b)-1])
	switch {
	case at == 0 && c != 0xA7:
		return api.ErrMagic
	case at == 1 && c != 1:
		return api.ErrVer
	case at == 2 && c != 0:
		return api.ErrLen
	case at == 3 && !(c == 2 || c == 3 || c >= 7 && c <= 71):
		return api.ErrLen
	case at == 4 && !((c == 1 || c == 2) && b[3] >= 7 || c == 3 && b[3] == 2 || c == 4 && b[3] == 3):
		return api.ErrOp
	case at == 5 && c >= rules:
		return api.ErrRule
	case at == 10 && c != int(b[3])-7:
		return api.ErrKey
	}
	return api.OK
}

// P13.1: the fault of each byte there may be at each place.
func TestFaultOfEachByte(t *testing.T) {
	for q, whole := range requests() {
		for _, rules := range []int{q.Rule + 1, 256, math.MaxInt} {
			for at := range whole {
				for c := range 256 {
					b := []byte(whole)
					b[at] = byte(c)
					want := wanted(b[:at+1], rules)
					got, n, e := frame.Parse(b[:at+1], rules)
					if e != want || e != api.OK && (n != 0 || got != api.Request{}) {
						t.Fatalf("%x of %d: %v, %d, %d, not %d", b[:at+1], rules, got, n, e, want)
					}
					// The first fault is told, whatever comes behind it.
					if want == api.OK {
						continue
					}
					if _, _, e := frame.Parse(append(b[:at+1], "\x00\x00\x00\x00"...), rules); e != want {
						t.Fatalf("%x of %d: %d, not %d", b, rules, e, want)
					}
				}
			}
		}
	}
}

// P13.1 of Parse: without rules there is no request.
func TestParseWithoutRules(t *testing.T) {
	for q, whole := range requests() {
		for _, rules := range []int{q.Rule, 0, -1, math.MinInt} {
			if got, n, e := frame.Parse([]byte(whole), rules); got != (api.Request{}) || n != 0 || e != api.ErrRule {
				t.Errorf("%x of %d: %v, %d, %d", whole, rules, got, n, e)
			}
		}
	}
	if got, n, e := frame.Parse(nil, 1); got != (api.Request{}) || n != 0 || e != api.OK {
		t.Error(got, n, e)
	}
}

// P13.2: what Parse reads is written again as these bytes; P0: any bytes.
func TestParseOfAnyBytes(t *testing.T) {
	d := rand.New(rand.NewSource(12))
	read := 0
	for range 200000 {
		b := make([]byte, d.Intn(90))
		d.Read(b)
		begin := []byte{api.Magic, api.Version, 0, []byte{2, 3, 7, 8, 20, 71}[d.Intn(6)], byte(d.Intn(6)), byte(d.Intn(4)), 0, 0, 0, 0}
		begin = append(begin, begin[3]-7)
		copy(b, begin[:d.Intn(len(begin)+1)])
		same := bytes.Clone(b)
		q, n, e := frame.Parse(b, 3)
		if !bytes.Equal(b, same) {
			t.Fatal("changed")
		}
		if n == 0 {
			continue
		}
		read++
		if e != api.OK || !frame.Right(q, 3) || !bytes.Equal(frame.Encode(q), b[:n]) {
			t.Fatalf("%x: %v, %d, %d", b, q, n, e)
		}
	}
	if read < 1000 {
		t.Fatal("few requests", read)
	}
}

// P13.1 of Largest.
func TestLargest(t *testing.T) {
	for _, c := range []struct {
		op, k, track, want int
	}{
		{api.Check, 0, 64, 22}, {api.Peek, 0, 1, 22}, {api.Stats, 0, 64, 46},
		{api.Top, 0, 64, 88}, {api.Top, 1, 64, 88}, {api.Top, 2, 64, 169}, {api.Top, 64, 64, 5191}, {api.Top, 255, 64, 5191},
		{api.Top, 3, 2, 169}, {api.Top, -5, 64, 88}, {api.Top, 255, 1, 88},
	} {
		if got := frame.Largest(api.Request{Op: c.op, K: c.k}, c.track); got != c.want {
			t.Errorf("%v: %d", c, got)
		}
	}
	frame.Largest(api.Request{Op: 99}, 3)
	frame.Largest(api.Request{Op: api.Top, K: math.MinInt}, math.MinInt)
	frame.Largest(api.Request{Op: api.Top, K: math.MaxInt}, math.MaxInt)
}
