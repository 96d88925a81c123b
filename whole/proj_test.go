package whole

import (
	"testing"

	"repartee/api"
	"repartee/proj"
)

// played is what an engine tells of sampled rounds.
type played struct {
	setup   api.Setup
	scripts []api.Prog
	rounds  []api.Round
	told    []api.Event
}

// sampled is what an engine tells of the rounds of a number.
func sampled(t *testing.T, seed int) played {
	r := from(seed)
	x := played{setup: r.setup(), scripts: r.scripts(), rounds: r.rounds(60)}
	x.do(t)
	return x
}

// do lets an engine do the rounds.
func (x *played) do(t *testing.T) {
	x.told = nil
	e := made(t, x.setup, x.scripts)
	for _, round := range x.rounds {
		x.told = append(x.told, e.Round(round)...)
	}
}

// P31.4, and P1 of the whole: each life is what its script comes to by itself.
func TestHolds(t *testing.T) {
	lives := 0
	for seed := range 1500 {
		x := sampled(t, seed)
		if id, ok := proj.Holds(x.setup, x.scripts, x.told); id != 0 || !ok {
			t.Fatal(seed, id)
		}
		lives += len(proj.Ids(x.told))
	}
	if lives < 5000 {
		t.Error("too few lives", lives)
	}
}
