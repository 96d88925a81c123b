package course

import (
	"slices"
	"testing"

	"repartee/api"
)

// event is an event in short.
func event(kind, id int) api.Event { return api.Event{Kind: kind, Id: id} }

func TestParts(t *testing.T) {
	round := func(at int64) api.Event { return api.Event{Kind: api.EvRound, Tick: at} }
	l := []api.Event{event(api.EvRead, 1), event(api.EvOpen, 2), round(3), event(api.EvDrain, 0), event(api.EvOpen, 1), event(api.EvRead, 1), round(4), event(api.EvDrain, 0), event(api.EvStep, 2), event(api.EvEof, 0), event(api.EvOpen, 1), event(api.EvStop, 0), event(api.EvRefuse, 1), event(api.EvWrite, 1)}
	parts := Parts(l)
	if len(parts) != 2 || parts[0].Id != 1 || parts[1].Id != 2 {
		t.Fatal(parts)
	}
	if !slices.Equal(parts[0].Events, []api.Event{l[2], l[4], l[5], l[7], l[13]}) || !slices.Equal(parts[0].Rounds, []int{0, 0, 0, 1, 1}) {
		t.Error(parts[0])
	}
	if !slices.Equal(parts[1].Events, []api.Event{l[1], l[3], l[7], l[8]}) || !slices.Equal(parts[1].Rounds, []int{0, 0, 1, 1}) {
		t.Error(parts[1])
	}
	if len(Parts(nil)) != 0 {
		t.Error("none")
	}
}

func TestOf(t *testing.T) {
	p := api.Prog{Name: "a", Deadline: 9, Ops: []api.Op{{Kind: api.OpPause}, {Kind: api.OpExpect, OnTimeout: 0, OnEof: -1}}}
	woke := api.Event{Kind: api.EvStep, Id: 1, Step: api.Step{Tick: 7, What: api.WWoke}}
	l := []api.Event{{Kind: api.EvRound, Tick: 5}, {Kind: api.EvOpen, Id: 1, N: 1}, {Kind: api.EvOpen, Id: 0, N: 0}, {Kind: api.EvOpen, Id: 2, N: 2}, {Kind: api.EvOpen, Id: 3, N: -1}, {Kind: api.EvRound, Tick: 6}, {Kind: api.EvRead, Id: 1}, woke}
	c := Of([]api.Prog{{}, p}, l)
	if len(c) != 1 || c[0].Id != 1 || c[0].Script != 1 || !slices.Equal(c[0].Marks, []Mark{{Event: l[1], Kind: api.OpPause, Tick: 5}, {Event: l[6], Round: 1, Op: -1}, {Event: woke, Round: 1, Op: 1, Kind: api.OpExpect, Tick: 7}}) {
		t.Fatal(c)
	}
	m := c[0].Marks
	if m[0].Leaves() || m[1].Leaves() || !m[2].Leaves() {
		t.Error("Leaves")
	}
	end := api.Event{Kind: api.EvStep, Id: 1, Step: api.Step{At: 1, What: api.WMatch}}
	p.Ops[1].Arms = []api.Arm{{Pattern: "x", To: 2}}
	if m := Of([]api.Prog{{}, p}, append(l, end))[0].Marks[3]; m != (Mark{Event: end, Round: 1, Op: 2}) {
		t.Error("the end", m)
	}
	for _, what := range []int{api.WLook, api.WLoad} {
		if (Mark{Event: api.Event{Kind: api.EvStep, Step: api.Step{What: what}}}).Leaves() {
			t.Error(what)
		}
	}
}
