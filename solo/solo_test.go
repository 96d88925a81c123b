package solo

import (
	"slices"
	"testing"

	"repartee/api"
	"repartee/parse"
)

var plain = api.Setup{Live: 2, Ring: 4, Win: 6, Out: 3, Quantum: 3, Visits: 1}

// script is the script of a text.
func script(t *testing.T, text string) api.Prog {
	p, spot, e := parse.Parse(text)
	if e != api.OK {
		t.Fatal(spot, e)
	}
	return p
}

// P23.1: Run.
func TestRun(t *testing.T) {
	p := script(t, "script a never 3\nexpect 5\non \"ok\" b\nlabel b\nsend \"hi\"")
	in := []api.Input{
		{Kind: api.InStep, Tick: 2},
		{Kind: api.InBytes, Bytes: "xxokz", N: 9},
		{Kind: 0, Bytes: "zz", Tick: 99}, {Kind: 6, N: 3}, {Kind: -1},
		{Kind: api.InStep, Tick: 3},
		{Kind: api.InEof}, {Kind: api.InEof},
		{Kind: api.InStep, Tick: 3},
		{Kind: api.InTaken, N: 1}, {Kind: api.InTaken, N: 5},
		{Kind: api.InCut, Tick: 7},
		{Kind: api.InStep, Tick: 7},
		{Kind: api.InStep, Tick: 8}, {Kind: api.InBytes, Bytes: "a"},
	}
	want := []Out{
		{},
		{N: 4},
		{}, {}, {},
		{Step: api.Step{Tick: 3, What: api.WMatch, N: 4}, Did: true},
		{Did: true}, {},
		{Step: api.Step{Tick: 3, At: 1, What: api.WLoad, N: 2}, Did: true},
		{Bytes: "h"}, {Bytes: "i"},
		{},
		{Step: api.Step{Tick: 7, At: 1, What: api.WDrained, Status: api.SDrained}, Did: true},
		{}, {},
	}
	l, e := Run(plain, p, 1, in...)
	if e != api.OK || !slices.Equal(l, want) {
		t.Error(l, e)
	}
	if l, e := Run(plain, p, 0, in[0]); e != api.OK || !slices.Equal(l, []Out{{}}) {
		t.Error("begins at now", l, e)
	}
	if l, e := Run(plain, p, 5, api.Input{Kind: api.InStep, Tick: 9}); e != api.OK || !slices.Equal(l, []Out{{}}) {
		t.Error("begins at now", l, e)
	}
	if l, e := Run(plain, p, 0); len(l) != 0 || e != api.OK {
		t.Error("no inputs", l, e)
	}
	if l, e := Run(api.Setup{}, api.Prog{}, 0, in...); len(l) != 0 || e != api.ErrArg {
		t.Error(l, e)
	}
	if l, e := Run(plain, api.Prog{}, 0, in...); len(l) != 0 || e != api.ErrForm {
		t.Error(l, e)
	}
}

// P23.2: Steps, Taken, Came, Status.
func TestAsked(t *testing.T) {
	a, b := api.Step{What: api.WLook, Tick: 3}, api.Step{What: api.WFail, Status: api.SFailed}
	l := []Out{{N: 3, Bytes: "ab"}, {Step: a, Did: true}, {N: -7}, {Step: b}, {Bytes: "c", N: 4, Did: true}, {Step: api.Step{Tick: 5, Status: 3}}}
	if !slices.Equal(Steps(l), []api.Step{a, b}) || Taken(l) != "abc" || Came(l) != 7 || Status(l) != api.SFailed {
		t.Error(Steps(l), Taken(l), Came(l), Status(l))
	}
	if len(Steps(nil)) != 0 || Taken(nil) != "" || Came(nil) != 0 || Status(nil) != 0 || Status(l[5:]) != 0 {
		t.Error("none")
	}
	const most = 1<<63 - 1
	if Came([]Out{{N: most}, {N: most}, {N: 1}}) != most || Came([]Out{{N: most - 1}, {N: 1}}) != most || Came([]Out{{N: most - 2}, {N: -5}, {N: 1}}) != most-1 || Came([]Out{{N: -1 << 63}}) != 0 {
		t.Error("Came")
	}
}
