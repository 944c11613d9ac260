package conn_test

import (
	"math"
	"math/rand"
	"slices"
	"strings"
	"testing"

	"weighbridge/api"
	"weighbridge/conn"
	"weighbridge/decode"
	"weighbridge/frame"
)

// An echo answers each request by its own bytes.
type echo struct{ most int }

func (h echo) Most(q api.Request) int      { return h.most }
func (h echo) Answer(q api.Request) []byte { return frame.Encode(q) }

// A watcher is an echo that is told of what was answered.
type watcher struct {
	echo
	calls []string
	seen  []api.Request
}

func (h *watcher) Answer(q api.Request) []byte {
	h.calls = append(h.calls, "answer")
	return h.echo.Answer(q)
}

func (h *watcher) Seen(q api.Request) {
	h.calls = append(h.calls, "seen")
	h.seen = append(h.seen, q)
}

var (
	stats = string(frame.Encode(api.Request{Op: api.Stats}))
	top   = string(frame.Encode(api.Request{Op: api.Top, K: 3}))
)

func opened(t *testing.T, size int) *conn.Conn {
	t.Helper()
	c := conn.New(1, size)
	if c == nil || !c.Open() {
		t.Fatal("not open")
	}
	return c
}

func wantAccept(t *testing.T, c *conn.Conn, b string, h conn.Host, want int) {
	t.Helper()
	if got := c.Accept([]byte(b), h); got != want {
		t.Fatalf("%x: %d, not %d", b, got, want)
	}
}

func wantDrain(t *testing.T, c *conn.Conn, n int, want string) {
	t.Helper()
	if got := c.Drain(n); string(got) != want {
		t.Fatalf("%x, not %x", got, want)
	}
}

// P16.1 of New, Bytes.
func TestNew(t *testing.T) {
	for _, size := range []int{math.MinInt, -1, 0, api.MaxOut + 1, math.MaxInt} {
		if conn.New(1, size) != nil {
			t.Error(size)
		}
	}
	for _, size := range []int{1, 22, api.MaxOut} {
		c := conn.New(1, size)
		if c == nil || c.IsOpen() || c.Waits() != 0 || c.Room() != size || conn.Bytes(size) != int64(size) {
			t.Error(size)
		}
	}
}

// P16.1 of a nil Conn.
func TestNil(t *testing.T) {
	var c *conn.Conn
	if c.IsOpen() || c.Open() || c.Shut() || c.Waits() != 0 || c.Room() != 0 {
		t.Fatal("a nil one is something")
	}
	wantAccept(t, c, stats, echo{6}, 0)
	wantDrain(t, c, 5, "")
}

// P16.1 of one that isn't open: nothing comes, nothing goes.
func TestShut(t *testing.T) {
	c := conn.New(1, 50)
	for range 2 {
		wantAccept(t, c, stats, echo{6}, 0)
		wantDrain(t, c, 5, "")
		if c.IsOpen() || c.Shut() || c.Waits() != 0 || c.Len() != 0 {
			t.Fatal("not shut")
		}
		if !c.Open() || c.Open() || !c.IsOpen() {
			t.Fatal("not open")
		}
		wantAccept(t, c, stats, echo{6}, 6)
		if c.Waits() != 6 || c.Room() != 44 || !c.Shut() || c.Waits() != 0 || c.Room() != 50 {
			t.Fatal("something waits")
		}
	}
}

// P16.1 of Open: a new decoder, nothing waits; a decoder's methods are the connection's.
func TestOpenAnew(t *testing.T) {
	c := opened(t, 50)
	wantAccept(t, c, stats+stats[:3], echo{6}, 9)
	if c.Len() != 3 || c.Err() != api.OK {
		t.Fatal(c.Len(), c.Err())
	}
	if _, whole, e := c.Try(4); whole || e != api.ErrLen {
		t.Fatal(e)
	}
	c.Shut()
	c.Open()
	if c.Len() != 0 || c.Waits() != 0 {
		t.Fatal(c.Len(), c.Waits())
	}
	wantAccept(t, c, "\x00", echo{6}, 1)
	if c.Err() != api.ErrMagic {
		t.Fatal(c.Err())
	}
	c.Shut()
	c.Open()
	if c.Err() != api.OK {
		t.Fatal(c.Err())
	}
	wantAccept(t, c, stats, echo{6}, 6)
	wantDrain(t, c, 100, stats)
	if q, whole, e := c.Feed(api.Magic); q != (api.Request{}) || whole || e != api.OK || c.Len() != 1 {
		t.Fatal(q, whole, e)
	}
}

// P16.1: the example: the byte that makes a request whole waits for the room that its answer may need.
func TestFullOutput(t *testing.T) {
	c := opened(t, 20)
	// An answer has six or seven bytes, but may have 14.
	wantAccept(t, c, stats+stats, echo{14}, 12)
	if c.Room() != 8 || c.Len() != 0 {
		t.Fatal(c.Room())
	}
	wantAccept(t, c, top+stats, echo{14}, 6)
	wantAccept(t, c, top[6:], echo{14}, 0)
	if c.Len() != 6 || c.Err() != api.OK {
		t.Fatal(c.Len())
	}
	wantDrain(t, c, 5, stats[:5])
	wantAccept(t, c, top[6:], echo{14}, 0)
	wantDrain(t, c, 1, stats[5:])
	wantAccept(t, c, top[6:]+stats, echo{14}, 1+5)
	wantDrain(t, c, -1, "")
	wantDrain(t, c, math.MaxInt, stats+top)
	wantAccept(t, c, stats[5:], echo{14}, 1)
	wantDrain(t, c, 7, stats)
}

// P16.1: a byte that has a fault needs room for six bytes; behind it nothing comes.
func TestFault(t *testing.T) {
	for room, come := range map[int]int{5: 0, 6: 1, 7: 1} {
		c := opened(t, 6+room)
		wantAccept(t, c, stats, echo{6}, 6)
		wantAccept(t, c, "\x00"+stats, echo{6}, come)
		if come == 0 {
			if c.Err() != api.OK || c.Waits() != 6 {
				t.Fatal(c.Err(), c.Waits())
			}
			wantDrain(t, c, 1, stats[:1])
			wantAccept(t, c, "\x00", echo{6}, 1)
			wantDrain(t, c, 5, stats[1:])
		} else {
			wantDrain(t, c, 6, stats)
		}
		wantAccept(t, c, stats, echo{6}, 0)
		wantDrain(t, c, 100, string(frame.Faulted(api.ErrMagic)))
		wantAccept(t, c, stats, echo{6}, 0)
		if c.Err() != api.ErrMagic || c.Waits() != 0 || !c.IsOpen() {
			t.Fatal(c.Err())
		}
	}
}

// P16.1 of a host that has a Seen: it is told of each request behind its answer.
func TestSeen(t *testing.T) {
	c, h := opened(t, 18), &watcher{echo: echo{7}}
	wantAccept(t, c, stats+top+stats+"\x00", h, 18)
	if !slices.Equal(h.seen, []api.Request{{Op: api.Stats}, {Op: api.Top, K: 3}}) {
		t.Fatal(h.seen)
	}
	if got := strings.Join(h.calls, " "); got != "answer seen answer seen" {
		t.Fatal(got)
	}
}

// P0: without a host no request gets whole; faults are told all the same.
func TestNoHost(t *testing.T) {
	c := opened(t, 50)
	wantAccept(t, c, stats, nil, 5)
	wantAccept(t, c, stats[5:], nil, 0)
	wantAccept(t, c, stats[5:], echo{6}, 1)
	wantAccept(t, c, "", nil, 0)
	wantAccept(t, c, "\x00", nil, 1)
	wantDrain(t, c, 50, stats+string(frame.Faulted(api.ErrMagic)))
}

// Rule 4: bytes that come are neither changed nor kept.
func TestBytesAreNotKept(t *testing.T) {
	c, b := opened(t, 50), []byte(stats[:4])
	c.Accept(b, echo{6})
	if string(b) != stats[:4] {
		t.Fatal(b)
	}
	clear(b)
	wantAccept(t, c, stats[4:], echo{6}, 2)
	wantDrain(t, c, 50, stats)
}

// P16.1: whatever the cuts and drains, what goes out is the answers in order, and the fault.
func TestCutsAndDrains(t *testing.T) {
	d := rand.New(rand.NewSource(16))
	for range 2000 {
		b := []byte(strings.Repeat(stats, d.Intn(4)) + strings.Repeat(top, d.Intn(4)) + stats)
		if d.Intn(2) == 0 {
			b[d.Intn(len(b))] = byte(d.Intn(256))
		}
		var want []byte
		requests, taken, fault := decode.All(b, 1)
		for _, q := range requests {
			want = append(want, frame.Encode(q)...)
		}
		if fault != api.OK {
			want = append(want, frame.Faulted(fault)...)
		}
		c, out, came := opened(t, 7+d.Intn(10)), []byte(nil), 0
		for idle := 0; idle < 50; idle++ {
			rest := b[came:]
			came += c.Accept(rest[:d.Intn(len(rest)+1)], echo{7})
			out = append(out, c.Drain(d.Intn(9))...)
			if c.Waits()+c.Room() < 7 {
				t.Fatal(c.Waits(), c.Room())
			}
		}
		out = append(out, c.Drain(100)...)
		if string(out) != string(want) || came != taken || c.Err() != fault {
			t.Fatalf("%x: %x, %d, not %x, %d", b, out, came, want, taken)
		}
	}
}
