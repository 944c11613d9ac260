package outbuf_test

import (
	"bytes"
	"math"
	"math/rand"
	"testing"

	"weighbridge/api"
	"weighbridge/outbuf"
)

func wantTake(t *testing.T, o *outbuf.Buf, n int, want string) {
	t.Helper()
	if got := o.Take(n); string(got) != want {
		t.Fatalf("Take(%d): %q, not %q", n, got, want)
	}
}

// P15.1: the example.
func TestTooMany(t *testing.T) {
	o := outbuf.New(2)
	if o.Put([]byte("abc")) || o.Len() != 0 || o.Room() != 2 {
		t.Fatal(o.Len(), o.Room())
	}
	if !o.Put([]byte("ab")) || o.Len() != 2 || o.Room() != 0 {
		t.Fatal(o.Len(), o.Room())
	}
	if o.Put([]byte("c")) || !o.Put(nil) || !o.Put([]byte{}) {
		t.Fatal("a full one")
	}
	wantTake(t, o, 3, "ab")
}

// P15.1 of New.
func TestNew(t *testing.T) {
	for _, size := range []int{math.MinInt, -1, 0, api.MaxOut + 1, math.MaxInt} {
		if outbuf.New(size) != nil {
			t.Error(size)
		}
	}
	for _, size := range []int{1, 2, api.MaxOut} {
		o := outbuf.New(size)
		if o.Len() != 0 || o.Room() != size || !o.Put(make([]byte, size)) || o.Room() != 0 || len(o.Take(size)) != size {
			t.Error(size)
		}
	}
}

// P15.1 of a nil Buf.
func TestNil(t *testing.T) {
	var o *outbuf.Buf
	o.Clear()
	if o.Len() != 0 || o.Room() != 0 || o.Put([]byte("a")) || !o.Put(nil) || !o.Put([]byte{}) {
		t.Fatal("a nil one has room")
	}
	wantTake(t, o, 5, "")
	wantTake(t, o, -5, "")
}

// P15.1 of Take, Clear: none, some, all; round the end of the place.
func TestTake(t *testing.T) {
	o := outbuf.New(5)
	o.Put([]byte("abc"))
	for _, n := range []int{0, -1, math.MinInt} {
		wantTake(t, o, n, "")
	}
	wantTake(t, o, 2, "ab")
	if !o.Put([]byte("defg")) || o.Put([]byte("h")) || o.Len() != 5 {
		t.Fatal(o.Len())
	}
	wantTake(t, o, 1, "c")
	wantTake(t, o, math.MaxInt, "defg")
	wantTake(t, o, 1, "")
	o.Put([]byte("xyz"))
	o.Clear()
	if o.Len() != 0 || o.Room() != 5 || !o.Put([]byte("12345")) {
		t.Fatal(o.Len())
	}
	wantTake(t, o, 5, "12345")
}

// Rule 4: what is handed in isn't kept, what is answered is new.
func TestNothingIsShared(t *testing.T) {
	o, b := outbuf.New(4), []byte("ab")
	o.Put(b)
	b[0] = 'x'
	first := o.Take(1)
	o.Put([]byte("cde"))
	if string(first) != "a" {
		t.Fatal(first)
	}
	first[0] = 'y'
	wantTake(t, o, 4, "bcde")
	if string(b) != "xb" {
		t.Fatal(b)
	}
}

// P15.1: any calls, against bytes that are written plainly.
func TestAgainstPlainBytes(t *testing.T) {
	d := rand.New(rand.NewSource(15))
	for size := 1; size < 12; size++ {
		o, plain := outbuf.New(size), []byte(nil)
		for i := range 3000 {
			switch d.Intn(9) {
			case 0:
				o.Clear()
				plain = nil
			case 1, 2, 3, 4:
				b := bytes.Repeat([]byte{byte(i)}, d.Intn(size+2))
				want := len(plain)+len(b) <= size
				if got := o.Put(b); got != want {
					t.Fatal(size, len(plain), len(b), got)
				}
				if want {
					plain = append(plain, b...)
				}
			default:
				n := min(d.Intn(size+1), len(plain))
				wantTake(t, o, n, string(plain[:n]))
				plain = plain[n:]
			}
			if o.Len() != len(plain) || o.Room() != size-len(plain) {
				t.Fatal(o.Len(), o.Room(), len(plain))
			}
		}
	}
}
