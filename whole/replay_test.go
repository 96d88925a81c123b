package whole

import (
	"testing"

	"repartee/api"
	"repartee/replay"
)

// P40.4, and P1 of the whole: whatever an engine tells of any rounds, it tells of the rounds that are made of it.
func TestReplayLaws(t *testing.T) {
	aborts, drains := 0, 0
	for seed := range 2500 {
		x := sampled(t, seed)
		if ok, e := replay.Again(x.setup, x.scripts, x.told); !ok || e != api.OK {
			t.Fatal(seed, ok, e)
		}
		for _, r := range replay.Rounds(x.told) {
			if r.Abort {
				aborts++
			}
			if r.Drain > 0 {
				drains++
			}
		}
	}
	if aborts < 100 || drains < 100 {
		t.Error("too few", aborts, drains)
	}
}
