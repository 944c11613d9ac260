package script_test

import (
	"bytes"
	"math"
	"math/rand"
	"slices"
	"strings"
	"testing"

	"weighbridge/api"
	"weighbridge/script"
)

func same(a, b api.Act) bool {
	return a.Kind == b.Kind && a.Clock == b.Clock && a.Conn == b.Conn && bytes.Equal(a.Data, b.Data) && a.N == b.N && slices.Equal(a.Seeds, b.Seeds)
}

func wantActs(t *testing.T, b []byte, want ...api.Act) {
	t.Helper()
	kept := bytes.Clone(b)
	if got := script.Decode(b); !slices.EqualFunc(got, want, same) {
		t.Fatalf("%x: %v, not %v", b, got, want)
	}
	if !bytes.Equal(b, kept) {
		t.Fatal("changed")
	}
}

// P19.1 of Decode: the example, and each kind.
func TestKinds(t *testing.T) {
	wantActs(t, nil)
	wantActs(t, []byte{2, 0, 5, 1, 9}, api.Act{Kind: api.Chunk, Clock: 5, Data: []byte{9}})
	wantActs(t, []byte{
		0, 0, 1,
		5 + 1, 0, 2,
		5*15 + 2, 0, 3, 2, 7, 8,
		5*2 + 3, 1, 0, 255,
		5*3 + 4, 0, 0, 2, 1, 2, 3, 4, 5, 6, 7, 8, 255, 0, 0, 0, 0, 0, 0, 9,
		2, 0, 0, 0,
		4, 0, 0, 0,
		3, 0, 0, 0,
	},
		api.Act{Kind: api.Open, Clock: 1},
		api.Act{Kind: api.Shut, Conn: 1, Clock: 3},
		api.Act{Kind: api.Chunk, Conn: 15, Clock: 6, Data: []byte{7, 8}},
		api.Act{Kind: api.Drain, Conn: 2, Clock: 262, N: 255},
		api.Act{Kind: api.Restart, Conn: 3, Clock: 262, Seeds: []uint64{0x0102030405060708, 0xff00000000000009}},
		api.Act{Kind: api.Chunk, Clock: 262}, api.Act{Kind: api.Restart, Clock: 262}, api.Act{Kind: api.Drain, Clock: 262},
	)
}

// P19.1 of Decode: each first byte there is.
func TestFirstByte(t *testing.T) {
	for c := range 256 {
		wantActs(t, []byte{byte(c), 0, 7}, api.Act{Kind: c % 5, Conn: c / 5 % 16, Clock: 7})
	}
}

// P19.1 of Decode: how much later: twelve bits, shifted by twice the other four.
func TestLater(t *testing.T) {
	for high := range 16 {
		for _, low := range []int64{0, 1, 0xABC, 0xFFF} {
			b := []byte{0, byte(high<<4) | byte(low>>8), byte(low)}
			by := low
			for range high {
				by *= 4
			}
			wantActs(t, append(b, b...), api.Act{Clock: by}, api.Act{Clock: 2 * by})
		}
	}
}

// P19.1 of Decode: bytes that aren't there are 0; of a chunk there are fewer.
func TestCutShort(t *testing.T) {
	wantActs(t, []byte{2}, api.Act{Kind: api.Chunk})
	wantActs(t, []byte{2, 1}, api.Act{Kind: api.Chunk, Clock: 256})
	wantActs(t, []byte{2, 0, 1}, api.Act{Kind: api.Chunk, Clock: 1})
	wantActs(t, []byte{2, 0, 1, 3}, api.Act{Kind: api.Chunk, Clock: 1})
	wantActs(t, []byte{2, 0, 1, 3, 0, 5}, api.Act{Kind: api.Chunk, Clock: 1, Data: []byte{0, 5}})
	wantActs(t, []byte{3, 0, 1}, api.Act{Kind: api.Drain, Clock: 1})
	wantActs(t, []byte{4, 0, 1}, api.Act{Kind: api.Restart, Clock: 1})
	wantActs(t, []byte{4, 0, 1, 3, 1, 2}, api.Act{Kind: api.Restart, Clock: 1, Seeds: []uint64{0x0102 << 48, 0, 0}})
	wantActs(t, []byte{4, 0, 1, 0xFD, 0, 0, 0, 0, 0, 0, 0, 1, 1}, api.Act{Kind: api.Restart, Clock: 1, Seeds: []uint64{1}}, api.Act{Kind: api.Shut, Clock: 1})
}

// P19.1 of Decode: a clock ends at the greatest number.
func TestGreatestClock(t *testing.T) {
	n := 1<<21 + 600
	l := script.Decode(bytes.Repeat([]byte{0, 0xFF, 0xFF}, n))
	if len(l) != n || l[0].Clock != 0xFFF<<30 || l[n-1].Clock != math.MaxInt64 {
		t.Fatal(len(l), l[0], l[n-1])
	}
	for i := range l[1:] {
		if l[i].Clock > l[i+1].Clock {
			t.Fatal("the clock goes back", i)
		}
	}
}

// Rule 4: the acts share nothing with the bytes.
func TestDataIsNew(t *testing.T) {
	b := []byte{2, 0, 0, 2, 7, 8, 2, 0, 0, 1, 9}
	l := script.Decode(b)
	clear(b)
	if string(l[0].Data) != "\x07\x08" || string(l[1].Data) != "\x09" {
		t.Fatal(l)
	}
	_ = append(l[0].Data, 1)
	if string(l[1].Data) != "\x09" {
		t.Fatal(l)
	}
}

// randomActs: any that Encode tells.
func randomActs(d *rand.Rand) []api.Act {
	l, now := make([]api.Act, d.Intn(20)), int64(0)
	for i := range l {
		now += []int64{0, 1, 255, 256, 4095, d.Int63n(4096)}[d.Intn(6)]
		l[i] = api.Act{Kind: d.Intn(5), Conn: d.Intn(16), Clock: now}
		switch l[i].Kind {
		case api.Chunk:
			l[i].Data = make([]byte, []int{0, 1, 255, d.Intn(256)}[d.Intn(4)])
			d.Read(l[i].Data)
		case api.Drain:
			l[i].N = d.Intn(256)
		case api.Restart:
			for range d.Intn(4) {
				l[i].Seeds = append(l[i].Seeds, d.Uint64())
			}
		}
	}
	return l
}

// P19.1 of Encode: its bytes' acts are these.
func TestEncode(t *testing.T) {
	d := rand.New(rand.NewSource(19))
	for range 3000 {
		l := randomActs(d)
		wantActs(t, script.Encode(l), l...)
	}
	if got := script.Encode(nil); len(got) != 0 {
		t.Fatal(got)
	}
}

// P0: any bytes are a script; acts that Encode doesn't tell end.
func TestAnything(t *testing.T) {
	d := rand.New(rand.NewSource(20))
	for range 20000 {
		b := make([]byte, d.Intn(60))
		d.Read(b)
		last := int64(0)
		for _, a := range script.Decode(b) {
			if a.Kind < 0 || a.Kind > 4 || a.Conn < 0 || a.Conn > 15 || a.Clock < last || len(a.Data) > 255 || a.N < 0 || a.N > 255 || len(a.Seeds) > 3 {
				t.Fatalf("%x: %v", b, a)
			}
			last = a.Clock
		}
	}
	for _, x := range []int{math.MinInt, -1, 16, 256, math.MaxInt} {
		for kind := range 5 {
			script.Encode([]api.Act{{Kind: kind, Clock: int64(x), Conn: x, N: x, Data: []byte(strings.Repeat("d", 300)), Seeds: make([]uint64, 300)}, {Kind: x, Clock: -1}})
		}
	}
}
