package server_test

import (
	"testing"

	"weighbridge/api"
	"weighbridge/config"
	"weighbridge/frame"
	"weighbridge/report"
	"weighbridge/server"
)

// The use that README.md shows.
func TestReadme(t *testing.T) {
	rule := api.Rule{
		Limit: 10, Window: 1000, Burst: 4, // 10 in each 1000, at most 4 at once
		Slots: 5, Rows: 2, Width: 256, // the sketches that judge keys without a cell
		Cells: 16, Track: 8, // exact cells, tracked keys
	}
	c := api.Config{Conns: 1, Rules: []api.Rule{rule}}
	c.Out = config.Most(c)
	c.Budget = config.Footprint(c)

	s, e := server.New(c, []uint64{1, 2, 3}) // e: api.ErrArg, if c may not be
	if e != api.OK {
		t.Fatal(e)
	}
	s.Do(api.Act{Kind: api.Open})
	ask := frame.Encode(api.Request{Op: api.Check, Key: "somebody", Cost: 3})
	s.Do(api.Act{Kind: api.Chunk, Clock: 5, Data: ask})
	step := s.Do(api.Act{Kind: api.Drain, Clock: 5, N: c.Out})
	lines, _ := report.Stream(step.Out) // "check allow 1 0\n"
	if lines != "check allow 1 0\n" {
		t.Fatal(lines)
	}
}
