package whole

import (
	"slices"
	"testing"

	"repartee/api"
	"repartee/log"
	"repartee/play"
	"repartee/proj"
)

// events is all that is told of rounds.
func events(t *testing.T, x played, rounds []api.Round) []api.Event {
	l, e := play.Events(x.setup, x.scripts, rounds...)
	if e != api.OK {
		t.Fatal(e)
	}
	return l
}

// P33.4: what comes behind, that each event is good, and a script that is wrong.
func TestPlayLaws(t *testing.T) {
	for seed := range 600 {
		x := sampled(t, seed)
		n := len(x.rounds) / 2
		if ahead := events(t, x, x.rounds[:n]); !slices.Equal(ahead, x.told[:len(ahead)]) {
			t.Fatal("what comes behind", seed)
		}
		if _, e := log.Write(x.told); e != api.OK {
			t.Fatal("an event that is not good", seed)
		}
		ends, stopped := play.Ends(x.told)
		for _, id := range proj.Ids(x.told) {
			life, _ := proj.Of(x.told, id)
			if status, ok := ends[id]; status != life.Status || !ok {
				t.Fatal("Ends", seed, id)
			}
		}
		if stopped != slices.ContainsFunc(x.told, func(v api.Event) bool { return v.Kind == api.EvStop }) {
			t.Fatal("stopped", seed)
		}
		// Another script that is wrong, in place of one that is: nothing else becomes of anybody.
		y := x
		y.scripts = slices.Clone(x.scripts)
		for i, p := range y.scripts {
			if p.Jumps < 0 {
				y.scripts[i] = api.Prog{Name: "Wrong"}
			}
		}
		if !slices.Equal(events(t, y, y.rounds), x.told) {
			t.Fatal("a script that is wrong", seed)
		}
	}
}
