package server_test

import (
	"bytes"
	"math"
	"reflect"
	"slices"
	"testing"

	"weighbridge/api"
	"weighbridge/config"
	"weighbridge/conn"
	"weighbridge/frame"
	"weighbridge/limiter"
	"weighbridge/server"
)

// rule: limit 10 in a window of 10 in five slots, at most 4 at once (a unit of 2); one cell.
func rule() api.Rule {
	return api.Rule{Limit: 10, Window: 10, Burst: 4, Slots: 5, Cells: 1, Rows: 2, Width: 64, Track: 4}
}

func conf(rules ...api.Rule) api.Config {
	return api.Config{Budget: 1 << 30, Conns: 2, Out: 6000, Rules: rules}
}

func begin(t *testing.T, c api.Config, seeds []uint64) *server.Server {
	t.Helper()
	s, e := server.New(c, seeds)
	if s == nil || e != api.OK {
		t.Fatal(e)
	}
	return s
}

func wantStep(t *testing.T, s *server.Server, a api.Act, want api.Step) {
	t.Helper()
	got := s.Do(a)
	if got.Err != want.Err || got.Accepted != want.Accepted || !bytes.Equal(got.Out, want.Out) || !slices.Equal(got.Events, want.Events) {
		t.Fatalf("%v: %v, not %v", a, got, want)
	}
}

func open(at int64, conn int) api.Act { return api.Act{Kind: api.Open, Clock: at, Conn: conn} }

func chunk(at int64, conn int, l ...api.Request) api.Act {
	a := api.Act{Kind: api.Chunk, Clock: at, Conn: conn}
	for _, q := range l {
		a.Data = append(a.Data, frame.Encode(q)...)
	}
	return a
}

func drain(at int64, conn, n int) api.Act {
	return api.Act{Kind: api.Drain, Clock: at, Conn: conn, N: n}
}

func check(rule int, key string, cost uint32) api.Request {
	return api.Request{Op: api.Check, Rule: rule, Key: key, Cost: cost}
}

func allow(remaining int64) []byte {
	return frame.Answered(api.Check, api.Answer{Verdict: api.Allow, Remaining: remaining})
}

func deny(remaining, retry int64) []byte {
	return frame.Answered(api.Check, api.Answer{Verdict: api.Deny, Remaining: remaining, Retry: retry})
}

func up(rule int, key string, at int64) api.Event {
	return api.Event{Rule: rule, Key: key, Up: true, At: at}
}

// P18.1 of New: a configuration that may not be; all connections are shut.
func TestNew(t *testing.T) {
	wrong := conf(rule())
	wrong.Budget = config.Footprint(wrong) - 1
	for _, c := range []api.Config{{}, conf(), conf(api.Rule{}), wrong} {
		if s, e := server.New(c, nil); s != nil || e != api.ErrArg {
			t.Fatal(c, e)
		}
	}
	s := begin(t, conf(rule(), rule()), []uint64{1})
	if s.Now() != 0 || s.Over() || s.Held(10) != 0 {
		t.Fatal(s.Now())
	}
	for i := range 2 {
		if s.Conn(i).IsOpen() || s.Conn(i).Room() != 6000 || s.Rule(i).Totals() != (api.Totals{}) {
			t.Fatal(i)
		}
	}
	for _, i := range []int{math.MinInt, -1, 2, 7, 8, 15, 16, math.MaxInt} {
		if s.Conn(i) != nil || s.Rule(i) != nil {
			t.Fatal(i)
		}
	}
}

// P18.1 of a nil Server.
func TestNil(t *testing.T) {
	var s *server.Server
	for kind := range 6 {
		wantStep(t, s, api.Act{Kind: kind, Clock: 5}, api.Step{Err: api.ErrArg})
	}
	if s.Rule(0) != nil || s.Conn(0) != nil {
		t.Fatal("a nil server has something")
	}
}

// Rule 4: the rules and the seeds that are handed in are neither changed nor kept.
func TestConfigIsNotKept(t *testing.T) {
	c, seeds := conf(rule(), rule()), []uint64{3, 4}
	s := begin(t, c, seeds)
	if !reflect.DeepEqual(c, conf(rule(), rule())) || !slices.Equal(seeds, []uint64{3, 4}) {
		t.Fatal("changed")
	}
	c.Rules[0] = api.Rule{Limit: 1, Window: 1}
	seeds[0] = 9
	again := []uint64{5}
	wantStep(t, s, api.Act{Kind: api.Restart, Clock: 3, Seeds: again}, api.Step{})
	if again[0] != 5 {
		t.Fatal("changed")
	}
	wantStep(t, s, open(13, 0), api.Step{})
	wantStep(t, s, chunk(13, 0, check(0, "a", 4)), api.Step{Accepted: 12, Events: []api.Event{up(0, "a", 13)}})
}

// P18.1: the example, and every error of an act; the clock has read the time all the same.
func TestErrors(t *testing.T) {
	s := begin(t, conf(rule()), nil)
	for i, c := range []struct {
		act  api.Act
		want api.Errno
	}{
		{chunk(0, 0), api.ErrShut},
		{drain(0, 0, 5), api.ErrShut},
		{api.Act{Kind: api.Shut}, api.ErrShut},
		{open(0, 0), api.OK},
		{open(0, 0), api.ErrShut},
		{api.Act{Kind: api.Shut}, api.OK},
		{api.Act{Kind: api.Shut}, api.ErrShut},
		{open(0, -1), api.ErrArg}, {open(0, 2), api.ErrArg}, {open(0, math.MaxInt), api.ErrArg}, {open(0, math.MinInt), api.ErrArg},
		{chunk(0, 2), api.ErrArg}, {drain(0, -1, 1), api.ErrArg}, {api.Act{Kind: api.Shut, Conn: 16}, api.ErrArg},
		{api.Act{Kind: 5}, api.ErrArg}, {api.Act{Kind: -1}, api.ErrArg}, {api.Act{Kind: math.MaxInt, Conn: 9}, api.ErrArg},
		{open(0, 0), api.OK},
		{api.Act{Kind: 5}, api.ErrArg}, // of an open connection, too
		{chunk(0, 0), api.OK},
		{drain(0, 0, math.MinInt), api.OK},
		{chunk(0, 1), api.ErrShut},
		{api.Act{Kind: api.Restart, Conn: 99}, api.OK},
		{chunk(0, 0), api.ErrShut},
	} {
		c.act.Clock = int64(10 * (i + 1))
		if c.act.Data == nil && c.act.Kind == api.Chunk && c.want != api.OK {
			c.act.Data = []byte{api.Magic}
		}
		wantStep(t, s, c.act, api.Step{Err: c.want})
		if s.Now() != c.act.Clock {
			t.Fatal(i, s.Now())
		}
	}
}

// P18.1: what acts do: bytes that come, answers that go out, events with their rules in order.
func TestActs(t *testing.T) {
	s := begin(t, conf(rule(), rule()), []uint64{1, 2})
	wantStep(t, s, open(5, 1), api.Step{})
	a := chunk(7, 1, check(1, "a", 3), check(0, "b", 4), check(1, "c", 4), check(0, "b", 1))
	a.Data = append(a.Data, api.Magic)
	wantStep(t, s, a, api.Step{Accepted: 49, Events: []api.Event{
		up(1, "a", 7), up(0, "b", 7), {Rule: 1, Key: "a", At: 7}, up(1, "c", 7),
	}})
	if s.Conn(1).Waits() != 88 || s.Conn(1).Len() != 1 || s.Conn(0).IsOpen() {
		t.Fatal(s.Conn(1).Waits())
	}
	wantStep(t, s, drain(7, 1, 30), api.Step{Out: append(allow(1), allow(0)[:8]...)})
	wantStep(t, s, drain(8, 1, 1000), api.Step{Out: slices.Concat(allow(0)[8:], allow(0), deny(0, 2))})
	// The clock doesn't go back.
	wantStep(t, s, chunk(3, 1), api.Step{})
	if s.Now() != 8 {
		t.Fatal(s.Now())
	}
	wantStep(t, s, api.Act{Kind: api.Shut, Conn: 1, Clock: 9}, api.Step{})
	wantStep(t, s, drain(9, 1, 5), api.Step{Err: api.ErrShut})
}

// P18.1 of Most, Answer: at the clock's time, of each request.
func TestAnswer(t *testing.T) {
	other := rule()
	other.Track = 2
	s := begin(t, conf(rule(), other), nil)
	for q, want := range map[api.Request]int{
		check(0, "a", 1): 22, {Op: api.Peek, Rule: 1}: 22, {Op: api.Stats}: 46,
		{Op: api.Top, K: 255}: 7 + 4*81, {Op: api.Top, Rule: 1, K: 255}: 7 + 2*81, {Op: api.Top}: 88, {Op: api.Top, K: 3}: 7 + 3*81,
	} {
		if got := s.Most(q); got != want {
			t.Errorf("%v: %d", q, got)
		}
	}
	s.Read(20)
	for _, c := range []struct {
		q    api.Request
		want []byte
	}{
		{check(1, "a", 3), allow(1)},
		{check(1, "a", 1<<32-1), frame.Answered(api.Check, api.Answer{Verdict: api.BadCost})},
		{api.Request{Op: api.Peek, Rule: 1, Key: "a", Cost: 2}, frame.Answered(api.Peek, api.Answer{Verdict: api.Deny, Remaining: 1, Retry: 2})},
		{api.Request{Op: api.Stats, Rule: 1}, frame.Totalled(1, api.Totals{Allows: 1, Bad: 1, Cells: 1, Weight: 3})},
		{api.Request{Op: api.Top, Rule: 1}, frame.Listed(1, []api.Count{{Key: "a", N: 3}})},
		{api.Request{Op: api.Top, K: 4}, frame.Listed(0, nil)},
	} {
		if got := s.Answer(c.q); !bytes.Equal(got, c.want) {
			t.Errorf("%v: %x, not %x", c.q, got, c.want)
		}
	}
	// Nothing is said of what may not be, but that it ends.
	for _, q := range []api.Request{{}, check(2, "a", 1), check(-1, "a", 1), check(math.MaxInt, "a", 1), {Op: 99}} {
		s.Most(q)
		s.Answer(q)
	}
	// What was asked outside of an act is of no act.
	wantStep(t, s, open(20, 0), api.Step{})
	wantStep(t, s, chunk(20, 0, check(1, "a", 1)), api.Step{Accepted: 12})
}

// P18.1: from the horizon on, and behind a restart till a window has passed, each check is denied.
func TestHorizonAndRestart(t *testing.T) {
	s := begin(t, conf(rule()), nil)
	wantStep(t, s, open(api.Horizon-1, 0), api.Step{})
	wantStep(t, s, chunk(0, 0, check(0, "a", 4)), api.Step{Accepted: 12, Events: []api.Event{up(0, "a", api.Horizon-1)}})
	wantStep(t, s, chunk(api.Horizon, 0, check(0, "a", 1), check(0, "b", 0)), api.Step{Accepted: 24})
	wantStep(t, s, drain(math.MaxInt64, 0, 66), api.Step{Out: slices.Concat(allow(0), deny(0, limiter.Never), frame.Answered(api.Check, api.Answer{Verdict: api.BadCost}))})
	wantStep(t, s, api.Act{Kind: api.Restart, Clock: 100}, api.Step{})
	if s.Now() != 100 || s.Conn(0).IsOpen() || s.Rule(0).Totals() != (api.Totals{}) {
		t.Fatal(s.Now())
	}
	wantStep(t, s, open(100, 0), api.Step{})
	for at, want := range [][]byte{deny(0, 10), deny(0, 9), deny(0, 8), deny(0, 7), deny(0, 6), deny(0, 5), deny(0, 4), deny(0, 3), deny(0, 2), deny(0, 1)} {
		wantStep(t, s, chunk(int64(100+at), 0, check(0, "a", 1)), api.Step{Accepted: 12})
		wantStep(t, s, drain(0, 0, 22), api.Step{Out: want})
	}
	wantStep(t, s, chunk(110, 0, check(0, "a", 1)), api.Step{Accepted: 12, Events: []api.Event{up(0, "a", 110)}})
	wantStep(t, s, drain(0, 0, 22), api.Step{Out: allow(3)})
}

// P18.1 of a Restart: a connection begins anew: shut, nothing waits, with a new decoder.
func TestRestartOfConnections(t *testing.T) {
	s := begin(t, conf(rule()), nil)
	wantStep(t, s, open(0, 0), api.Step{})
	wantStep(t, s, api.Act{Kind: api.Chunk, Data: []byte{0}}, api.Step{Accepted: 1})
	wantStep(t, s, api.Act{Kind: api.Restart, Clock: -5}, api.Step{})
	c := s.Conn(0)
	if s.Now() != 0 || c.IsOpen() || c.Err() != api.OK || c.Waits() != 0 || s.Conn(1) == nil || s.Conn(2) != nil {
		t.Fatal(c.Err(), c.Waits())
	}
	wantStep(t, s, open(0, 0), api.Step{})
	wantStep(t, s, chunk(0, 0, api.Request{Op: api.Stats}), api.Step{Accepted: 6})
}

// wantDraws: a rule's limiter is that of these draws: its rows have the same counters of each key.
func wantDraws(t *testing.T, s *server.Server, i int, r api.Rule, draws []uint64) {
	t.Helper()
	l := limiter.New(r, draws)
	for k := range 60 {
		key := string(rune('a' + k))
		l.Check(s.Now(), 0, key, 1)
		s.Answer(check(i, key, 1))
	}
	for k := range 60 {
		key := string(rune('a' + k))
		for row := range r.Rows {
			if got, want := s.Rule(i).Mass(0, row, key), l.Mass(0, row, key); got != want {
				t.Fatal(i, row, key, got, want)
			}
		}
	}
}

// P18.1: a rule's draws of seeds.
func TestDraws(t *testing.T) {
	r := rule()
	r.Rows, r.Width, r.Limit = 3, 7, 1000
	const spread = 0x9E3779B97F4A7C15
	for _, seeds := range [][]uint64{nil, {1 << 60}, {5, 1 << 63, 77}, {1, 2, 3, 4, 5, 6, 7, 8, 9, 10, 11, 12, 13, 14, 15}} {
		s := begin(t, conf(r, r, r), []uint64{8})
		wantStep(t, s, api.Act{Kind: api.Restart, Seeds: seeds}, api.Step{})
		s.Read(10)
		one := begin(t, conf(r, r, r), seeds)
		one.Read(10)
		for rule := range 3 {
			draws := make([]uint64, 12)
			for i := range draws {
				if len(seeds) > 0 {
					times := uint64(0)
					for range i {
						times += spread
					}
					draws[i] = seeds[(rule+i)%len(seeds)] ^ uint64(rule)<<56 ^ times
				}
			}
			wantDraws(t, s, rule, r, draws)
			wantDraws(t, one, rule, r, draws)
		}
	}
}

// A server is a host of connections, and a clock.
func TestServerIsAHost(t *testing.T) {
	s := begin(t, conf(rule()), nil)
	var h conn.Host = s
	c := conn.New(1, 100)
	c.Open()
	if n := c.Accept(frame.Encode(api.Request{Op: api.Stats}), h); n != 6 || c.Waits() != 46 {
		t.Fatal(n, c.Waits())
	}
	s.Read(5)
	s.Restart()
	if s.Now() != 0 || s.Held(10) != 10 {
		t.Fatal(s.Now())
	}
}
