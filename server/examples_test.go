package server_test

import (
	"bytes"
	"testing"

	"weighbridge/api"
	"weighbridge/config"
	"weighbridge/frame"
	"weighbridge/server"
)

// verdict: what a check comes to at a time.
func verdict(t *testing.T, s *server.Server, at int64, q api.Request) int {
	t.Helper()
	s.Read(at)
	return answer(t, s, q).Answer.Verdict
}

// P18.2: the ten examples of the whole.
func TestTenExamples(t *testing.T) {
	one := rule()
	one.Burst = 1
	s := begin(t, conf(one), nil)
	for at := range int64(40) {
		if verdict(t, s, at, check(0, "a", 1)) != api.Allow {
			t.Error("1: a key that asks at each time", at)
		}
	}
	if verdict(t, s, 40, check(0, "a", 2)) != api.BadCost {
		t.Error("2: a cost above Burst")
	}
	s = begin(t, conf(rule(), rule()), nil)
	verdict(t, s, 0, check(0, "a", 2))
	verdict(t, s, 0, check(0, "b", 2))
	if _, ok := s.Rule(0).Resident("b"); ok || s.Rule(0).Mass(0, 0, "b") != 2 {
		t.Error("3: the second key is judged by the ring")
	}
	verdict(t, s, 0, check(0, "b", 2))
	if _, ok := s.Rule(0).Resident("b"); !ok {
		t.Error("3: more is offered to it")
	}
	if got := answer(t, s, api.Request{Op: api.Peek, Key: "c", Cost: 1, Rule: 1}).Answer; got != (api.Answer{Verdict: api.Allow, Remaining: 4}) {
		t.Error("8: a peek of a key that was never seen", got)
	}
	if got := answer(t, s, api.Request{Op: api.Stats, Rule: 1}).Totals; got != (api.Totals{}) {
		t.Error("9: the other rule", got)
	}
	if got := answer(t, s, api.Request{Op: api.Top}).List; len(got) != 1 || got[0] != (api.Count{Key: "b", N: 4}) {
		t.Error("7: the key to which most was offered", got)
	}
	s.Do(api.Act{Kind: api.Restart, Clock: 100})
	if verdict(t, s, 109, check(0, "a", 1)) != api.Deny || verdict(t, s, 110, check(0, "a", 1)) != api.Allow {
		t.Error("4: a restart")
	}
}

// P18.2: the examples of streams, and of a budget.
func TestExamplesOfStreams(t *testing.T) {
	c := conf(rule())
	c.Out = config.Most(c)
	c.Budget = config.Footprint(c)
	s := begin(t, c, nil)
	s.Do(open(0, 0))
	wantStep(t, s, api.Act{Kind: api.Chunk, Data: []byte{0, 0}}, api.Step{Accepted: 1})
	wantStep(t, s, drain(0, 0, 100), api.Step{Out: frame.Faulted(api.ErrMagic)})
	wantStep(t, s, api.Act{Kind: api.Chunk, Data: []byte{api.Magic}}, api.Step{})
	s.Do(open(0, 1))
	list := frame.Encode(api.Request{Op: api.Top, K: 255})
	wantStep(t, s, api.Act{Kind: api.Chunk, Conn: 1, Data: bytes.Repeat(list, 3)}, api.Step{Accepted: len(list)*2 - 1})
	wantStep(t, s, api.Act{Kind: api.Chunk, Conn: 1, Data: list[6:]}, api.Step{})
	wantStep(t, s, drain(0, 1, 7), api.Step{Out: frame.Listed(0, nil)})
	wantStep(t, s, api.Act{Kind: api.Chunk, Conn: 1, Data: list[6:]}, api.Step{Accepted: 1})
	c.Budget--
	if s, e := server.New(c, nil); s != nil || e != api.ErrArg {
		t.Error("10: one byte more than the budget")
	}
}
