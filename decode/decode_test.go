package decode_test

import (
	"math"
	"math/rand"
	"slices"
	"strings"
	"testing"

	"weighbridge/api"
	"weighbridge/decode"
	"weighbridge/frame"
)

func requests() []api.Request {
	return []api.Request{
		{Op: api.Stats}, {Op: api.Check, Rule: 1, Cost: 3, Key: strings.Repeat("l", api.MaxKey)}, {Op: api.Top, K: 255},
		{Op: api.Peek, Cost: 1<<32 - 1}, {Op: api.Check, Rule: 1, Cost: 1, Key: "k"},
	}
}

func encoded(l []api.Request) []byte {
	var b []byte
	for _, q := range l {
		b = append(b, frame.Encode(q)...)
	}
	return b
}

// faulty: streams of one request and a part of another one that has a fault, by that.
func faulty() map[api.Errno]string {
	whole := "\xa7\x01\x00\x02\x03\x00"
	return map[api.Errno]string{
		api.ErrMagic: whole + "\x00",
		api.ErrVer:   whole + "\xa7\x02",
		api.ErrLen:   whole + "\xa7\x01\x00\x04",
		api.ErrOp:    whole + "\xa7\x01\x00\x02\x01",
		api.ErrRule:  whole + "\xa7\x01\x00\x02\x03\x02",
		api.ErrKey:   whole + "\xa7\x01\x00\x07\x01\x00\x00\x00\x00\x00\x01",
	}
}

// P14.1: the example.
func TestFaultStays(t *testing.T) {
	d := decode.New(1)
	if d.Err() != api.OK || d.Len() != 0 {
		t.Fatal(d)
	}
	for _, c := range append([]byte{0}, frame.Encode(api.Request{Op: api.Stats})...) {
		for _, f := range []func(byte) (api.Request, bool, api.Errno){d.Try, d.Feed, d.Try} {
			if q, whole, e := f(c); q != (api.Request{}) || whole || e != api.ErrMagic {
				t.Fatal(c, q, whole, e)
			}
		}
		if d.Err() != api.ErrMagic || d.Len() != 0 {
			t.Fatal(d)
		}
	}
}

// P14.1 of Feed, Try, Len, Err: byte by byte; Try changes nothing.
func TestByteByByte(t *testing.T) {
	d := decode.New(2)
	for _, want := range requests() {
		b := frame.Encode(want)
		for i, c := range b {
			if d.Len() != i || d.Err() != api.OK {
				t.Fatal(i, d.Len(), d.Err())
			}
			before := d
			for other := range 256 {
				d.Try(byte(other))
			}
			tried, is, fault := d.Try(c)
			if d != before {
				t.Fatal("changed")
			}
			got, whole, e := d.Feed(c)
			if got != tried || whole != is || e != fault {
				t.Fatal(got, whole, e, tried, is, fault)
			}
			last := i == len(b)-1
			if whole != last || e != api.OK || last && got != want || !last && got != (api.Request{}) {
				t.Fatal(i, got, whole, e)
			}
		}
		if d.Len() != 0 {
			t.Fatal(d.Len())
		}
	}
}

// P14.1 of Feed: each fault, behind a whole request; there are no bytes then.
func TestFaults(t *testing.T) {
	for want, s := range faulty() {
		d := decode.New(2)
		for i := range len(s) {
			q, whole, e := d.Feed(s[i])
			if i == len(s)-1 && (e != want || q != (api.Request{}) || whole || d.Len() != 0 || d.Err() != want) {
				t.Errorf("%x: %v, %t, %d, not %d", s, q, whole, e, want)
			}
			if i < len(s)-1 && (e != api.OK || whole != (i == 5)) {
				t.Errorf("%x at %d: %t, %d", s, i, whole, e)
			}
		}
	}
}

// P14.1 of All: the bytes that were taken, the one that has the fault, too.
func TestAll(t *testing.T) {
	b := encoded(requests())
	if l, n, e := decode.All(b, 2); !slices.Equal(l, requests()) || n != len(b) || e != api.OK {
		t.Fatal(l, n, e)
	}
	if l, n, e := decode.All(append(b, "\xa7\x01\x00"...), 2); !slices.Equal(l, requests()) || n != len(b)+3 || e != api.OK {
		t.Fatal(l, n, e)
	}
	for want, s := range faulty() {
		l, n, e := decode.All([]byte(s+"more"), 2)
		if !slices.Equal(l, []api.Request{{Op: api.Stats}}) || n != len(s) || e != want {
			t.Errorf("%x: %v, %d, %d, not %d", s, l, n, e, want)
		}
	}
	if l, n, e := decode.All(nil, 2); len(l) != 0 || n != 0 || e != api.OK {
		t.Fatal(l, n, e)
	}
	for _, rules := range []int{0, -1, math.MinInt} {
		if l, n, e := decode.All(b, rules); len(l) != 0 || n != 6 || e != api.ErrRule {
			t.Fatal(l, n, e)
		}
	}
}

// P14.2: however a stream is cut, the requests and the fault are the same; P0: any bytes.
func TestCuts(t *testing.T) {
	d := rand.New(rand.NewSource(14))
	for range 3000 {
		b := encoded(requests()[d.Intn(5):])
		for range d.Intn(3) {
			b[d.Intn(len(b))] = byte(d.Intn(256))
		}
		want, taken, fault := decode.All(b, 2)
		// What is taken is the requests, and what of another one came ahead of the fault.
		if size := len(encoded(want)); taken < size || string(b[:size]) != string(encoded(want)) {
			t.Fatalf("%x: %v, %d", b, want, taken)
		}
		one, got, bytes := decode.New(2), []api.Request(nil), 0
		for rest := b; len(rest) > 0; {
			cut := d.Intn(len(rest) + 1)
			for _, c := range rest[:cut] {
				q, whole, _ := one.Feed(c)
				if whole {
					got = append(got, q)
				}
				bytes++
			}
			rest = rest[cut:]
		}
		if !slices.Equal(got, want) || one.Err() != fault || bytes != len(b) || fault == api.OK && taken != len(b) {
			t.Fatalf("%x: %v, %d, not %v, %d", b, got, one.Err(), want, fault)
		}
	}
}

// A decoder is a value: a copy goes on by itself.
func TestCopy(t *testing.T) {
	d := decode.New(1)
	d.Feed(api.Magic)
	other := d
	other.Feed(0)
	if d.Err() != api.OK || d.Len() != 1 || other.Err() != api.ErrVer {
		t.Fatal(d.Err(), d.Len(), other.Err())
	}
}
