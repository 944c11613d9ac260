package frame_test

import (
	"bytes"
	"math"
	"math/rand"
	"reflect"
	"strings"
	"testing"

	"weighbridge/api"
	"weighbridge/frame"
)

// told: an answer, with what it says, and its bytes.
type told struct {
	got  []byte
	said frame.Said
	want string
}

const (
	zeros = "\x00\x00\x00\x00\x00\x00\x00"
	ones  = "\xff\xff\xff\xff\xff\xff\xff\xff"
)

func answers() []told {
	allow := api.Answer{Verdict: api.Allow, Remaining: 0x0102030405060708, Retry: -1}
	totals := api.Totals{Allows: 1, Denies: -1, Bad: 3, Cells: 4, Weight: math.MinInt64}
	list := []api.Count{{Key: "", N: 1, Err: 2}, {Key: "a\x00", N: -1, Err: 3}, {Key: long, N: 4, Err: 5}}
	never := api.Answer{Verdict: api.Deny, Retry: math.MaxInt64}
	bad := api.Answer{Verdict: api.BadCost}
	return []told{
		{frame.Answered(api.Check, allow), frame.Said{Op: api.Check, Answer: allow}, "\xa8\x01\x00\x12\x81\x01\x01\x02\x03\x04\x05\x06\x07\x08" + ones},
		{frame.Answered(api.Peek, never), frame.Said{Op: api.Peek, Answer: never}, "\xa8\x01\x00\x12\x82\x02\x00" + zeros + "\x7f" + ones[1:]},
		{frame.Answered(api.Check, bad), frame.Said{Op: api.Check, Answer: bad}, "\xa8\x01\x00\x12\x81\x03\x00" + zeros + "\x00" + zeros},
		{frame.Totalled(255, totals), frame.Said{Op: api.Stats, Rule: 255, Totals: totals}, "\xa8\x01\x00\x2a\x83\xff" + zeros + "\x01" + ones + zeros + "\x03" + zeros + "\x04\x80" + zeros},
		{frame.Listed(9, nil), frame.Said{Op: api.Top, Rule: 9}, "\xa8\x01\x00\x03\x84\x09\x00"},
		{frame.Listed(0, list), frame.Said{Op: api.Top, List: list}, "\xa8\x01\x00\x78\x84\x00\x03" +
			"\x00" + zeros + "\x01" + zeros + "\x02" + "\x02a\x00" + ones + zeros + "\x03" + "\x40" + long + zeros + "\x04" + zeros + "\x05"},
		{frame.Listed(0, list[:1]), frame.Said{Op: api.Top, List: list[:1]}, "\xa8\x01\x00\x14\x84\x00\x01\x00" + zeros + "\x01" + zeros + "\x02"},
		{frame.Faulted(api.ErrMagic), frame.Said{Op: api.Fault, Err: api.ErrMagic}, "\xa8\x01\x00\x02\xff\x05"},
		{frame.Faulted(255), frame.Said{Op: api.Fault, Err: 255}, "\xa8\x01\x00\x02\xff\xff"},
	}
}

func wantSaid(t *testing.T, b []byte, want frame.Said, size int, ok bool) {
	t.Helper()
	got, n, is := frame.Read(b)
	if len(got.List) == 0 && len(want.List) == 0 {
		got.List, want.List = nil, nil
	}
	if !reflect.DeepEqual(got, want) || n != size || is != ok {
		t.Fatalf("%x: %v, %d, %t, not %v, %d, %t", b, got, n, is, want, size, ok)
	}
}

// P13.1 of Answered, Totalled, Listed, Faulted, Read; P13.2: answers come back.
func TestAnswersAsBytes(t *testing.T) {
	for _, a := range answers() {
		if string(a.got) != a.want {
			t.Errorf("%x, not %x", a.got, a.want)
		}
		wantSaid(t, a.got, a.said, len(a.want), true)
		wantSaid(t, append(bytes.Clone(a.got), "\x00\xa8"...), a.said, len(a.want), true)
		for cut := range len(a.want) {
			wantSaid(t, a.got[:cut], frame.Said{}, 0, false)
		}
	}
}

// P13.1: the largest answer there is.
func TestLongestList(t *testing.T) {
	l := make([]api.Count, 255)
	for i := range l {
		l[i] = api.Count{Key: strings.Repeat(string(rune('a'+i%26)), api.MaxKey), N: int64(i), Err: -int64(i)}
	}
	b := frame.Listed(3, l)
	if len(b) != 7+255*81 || b[2] != 0x50 || b[3] != 0xb2 {
		t.Fatal(len(b), b[:7])
	}
	wantSaid(t, b, frame.Said{Op: api.Top, Rule: 3, List: l}, len(b), true)
	if got := frame.Listed(3, l[:64]); len(got) != frame.Largest(api.Request{Op: api.Top, K: 64}, 64) {
		t.Fatal(len(got))
	}
	if frame.FaultSize != len(frame.Faulted(1)) || frame.Head != 4 {
		t.Fatal(frame.FaultSize)
	}
}

// P13.1 of Read: what is no answer.
func TestNoAnswer(t *testing.T) {
	said := strings.Repeat("\x00", 16)
	for _, s := range []string{
		"", "\xa7\x01\x00\x02\xff\x05", "\xa8\x00\x00\x02\xff\x05", "\xa8\x02\x00\x02\xff\x05",
		"\xa8\x01\x00\x00", "\xa8\x01\x00\x01\xff", "\xa8\x01\x00\x01\xff\x05",
		"\xa8\x01\x00\x02\xff\x00", "\xa8\x01\x00\x03\xff\x05\x00", "\xa8\x01\x00\x02\x7f\x05", "\xa8\x01\x00\x02\xfe\x05",
		"\xa8\x01\x00\x12\x81\x00" + said, "\xa8\x01\x00\x12\x81\x04" + said, "\xa8\x01\x00\x12\x82\xff" + said,
		"\xa8\x01\x00\x12\x01\x01" + said, "\xa8\x01\x00\x11\x81\x01" + said, "\xa8\x01\x00\x13\x81\x01" + said + "\x00",
		"\xa8\x01\x01\x12\x81\x01" + said, "\xa8\x01\x00\x12\x80\x01" + said, "\xa8\x01\x00\x12\x85\x01" + said,
		"\xa8\x01\x00\x29\x83" + strings.Repeat("\x00", 40), "\xa8\x01\x00\x2b\x83" + strings.Repeat("\x00", 42),
		"\xa8\x01\x00\x02\x84\x00", "\xa8\x01\x00\x03\x84\x00\x01", "\xa8\x01\x00\x04\x84\x00\x00\x00",
		"\xa8\x01\x00\x13\x84\x00\x01" + said, "\xa8\x01\x00\x14\x84\x00\x02\x00" + said, "\xa8\x01\x00\x14\x84\x00\x01\x01" + said,
		"\xa8\x01\x00\x15\x84\x00\x01\x00" + said + "\x00", "\xa8\x01\x00\x14\x84\x00\x00\x00" + said,
		"\xa8\x01\x00\x55\x84\x00\x01\x41" + said + strings.Repeat("l", 65),
	} {
		wantSaid(t, []byte(s), frame.Said{}, 0, false)
	}
}

// P13.2: an answer that Read takes out of any bytes is written again as these bytes; P0: any bytes.
func TestReadOfAnyBytes(t *testing.T) {
	d := rand.New(rand.NewSource(13))
	read := 0
	for range 200000 {
		a := answers()[d.Intn(9)].got
		for range d.Intn(3) {
			a[d.Intn(len(a))] = byte(d.Intn(256))
		}
		same := bytes.Clone(a)
		s, n, ok := frame.Read(a)
		if !bytes.Equal(a, same) {
			t.Fatal("changed")
		}
		if !ok {
			wantSaid(t, a, frame.Said{}, 0, false)
			continue
		}
		read++
		if again := written(s); !bytes.Equal(again, a[:n]) {
			t.Fatalf("%x: %v, %x", a, s, again)
		}
	}
	if read < 1000 {
		t.Fatal("few answers", read)
	}
}

func written(s frame.Said) []byte {
	switch s.Op {
	case api.Stats:
		return frame.Totalled(s.Rule, s.Totals)
	case api.Top:
		return frame.Listed(s.Rule, s.List)
	case api.Fault:
		return frame.Faulted(s.Err)
	}
	return frame.Answered(s.Op, s.Answer)
}

// Rule 4: the list that is answered shares nothing with the bytes; P0: what may not be told ends.
func TestListIsNew(t *testing.T) {
	b := frame.Listed(0, []api.Count{{Key: "abc", N: 1}})
	s, _, _ := frame.Read(b)
	clear(b)
	if s.List[0].Key != "abc" {
		t.Fatal(s.List)
	}
	frame.Answered(math.MinInt, api.Answer{Verdict: math.MaxInt})
	frame.Totalled(math.MaxInt, api.Totals{})
	frame.Listed(-1, make([]api.Count, 5000))
	frame.Listed(0, []api.Count{{Key: strings.Repeat("l", 100000)}})
	frame.Faulted(-1)
}
