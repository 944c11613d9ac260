package report_test

import (
	"bytes"
	"math"
	"math/rand"
	"strings"
	"testing"

	"weighbridge/api"
	"weighbridge/frame"
	"weighbridge/report"
)

// told: an answer's bytes, and its line.
type told struct {
	frame []byte
	line  string
}

func answers() []told {
	check := func(op, verdict int, remaining, retry int64) []byte {
		return frame.Answered(op, api.Answer{Verdict: verdict, Remaining: remaining, Retry: retry})
	}
	return []told{
		{check(api.Check, api.Allow, 5, 0), "check allow 5 0"},
		{check(api.Peek, api.Allow, 0, 0), "peek allow 0 0"},
		{check(api.Check, api.Deny, 3, math.MaxInt64), "check deny 3 9223372036854775807"},
		{check(api.Peek, api.Deny, -1, math.MinInt64), "peek deny -1 -9223372036854775808"},
		{check(api.Check, api.BadCost, 0, 0), "check cost 0 0"},
		{check(api.Peek, api.BadCost, 1, 2), "peek cost 1 2"},
		{frame.Totalled(7, api.Totals{Allows: 1, Denies: 2, Bad: -3, Cells: 4, Weight: 5}), "stats 7 1 2 -3 4 5"},
		{frame.Listed(255, nil), "top 255"},
		{frame.Listed(0, []api.Count{{Key: "a", N: 5, Err: 1}, {Key: "", N: 4}, {Key: "\x00\xffé€\n ", N: 3, Err: -2}}), "top 0 61 5 1 - 4 0 00ffc3a9e282ac0a20 3 -2"},
		{frame.Faulted(api.ErrMagic), "fault 5"},
		{frame.Faulted(255), "fault 255"},
	}
}

// P21.1 of Said, and of Stream of one answer.
func TestLines(t *testing.T) {
	for _, a := range answers() {
		s, _, ok := frame.Read(a.frame)
		if got := report.Said(s); !ok || got != a.line {
			t.Errorf("%q, not %q", got, a.line)
		}
		if got, n := report.Stream(a.frame); got != a.line+"\n" || n != len(a.frame) {
			t.Errorf("%q, %d, not %q", got, n, a.line)
		}
	}
}

// P21.1 of keys: each byte there is.
func TestEachByte(t *testing.T) {
	for high := range 16 {
		for low := range 16 {
			s := frame.Said{Op: api.Top, List: []api.Count{{Key: string([]byte{byte(high<<4 | low)})}}}
			want := "top 0 " + "0123456789abcdef"[high:high+1] + "0123456789abcdef"[low:low+1] + " 0 0"
			if got := report.Said(s); got != want {
				t.Fatalf("%q, not %q", got, want)
			}
		}
	}
}

// P21.1 of Stream: as far as there are whole ones.
func TestStream(t *testing.T) {
	d := rand.New(rand.NewSource(23))
	for range 500 {
		var b []byte
		var lines strings.Builder
		for range d.Intn(6) {
			a := answers()[d.Intn(len(answers()))]
			b = append(b, a.frame...)
			lines.WriteString(a.line + "\n")
		}
		last := frame.Totalled(1, api.Totals{})
		for _, rest := range [][]byte{nil, last[:1], last[:len(last)-1], {0}, frame.Encode(api.Request{Op: api.Stats}), frame.Faulted(0)} {
			all := append(bytes.Clone(b), rest...)
			kept := bytes.Clone(all)
			if got, n := report.Stream(all); got != lines.String() || n != len(b) {
				t.Fatalf("%x: %q, %d, not %q, %d", all, got, n, lines.String(), len(b))
			}
			if !bytes.Equal(all, kept) {
				t.Fatal("changed")
			}
		}
	}
	if got, n := report.Stream(nil); got != "" || n != 0 {
		t.Fatal(got, n)
	}
}

// P21.1 of Stream: behind what is no answer nothing is told.
func TestStreamEndsAtNoAnswer(t *testing.T) {
	fault := frame.Faulted(api.ErrKey)
	b := append(append(bytes.Clone(fault), 0), fault...)
	if got, n := report.Stream(b); got != "fault 10\n" || n != 6 {
		t.Fatal(got, n)
	}
}

// P0: what Read doesn't give, and any bytes, end.
func TestAnything(t *testing.T) {
	for _, op := range []int{math.MinInt, -1, 0, api.Check, api.Peek, 5, math.MaxInt} {
		report.Said(frame.Said{Op: op, Answer: api.Answer{Verdict: op}})
	}
	d := rand.New(rand.NewSource(24))
	for range 5000 {
		b := make([]byte, d.Intn(50))
		d.Read(b)
		report.Stream(b)
	}
}
