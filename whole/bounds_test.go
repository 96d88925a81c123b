package whole

import (
	"testing"

	"repartee/fair"
	"repartee/waits"
)

// P35.4, and P2 of the whole: no wait is late, and many are done, of those that have a bound.
func TestWaitsLaws(t *testing.T) {
	done := 0
	for seed := range 1500 {
		x := sampled(t, seed)
		each := fair.Ticks(x.told)
		if late := waits.Late(x.setup, x.scripts, x.told, each); len(late) != 0 {
			t.Fatal(seed, late)
		}
		for _, w := range waits.Of(x.scripts, x.told) {
			if w.Done && waits.Bound(x.setup, w, each) <= waits.Last(x.told) {
				done++
			}
		}
	}
	if done < 1000 {
		t.Error("too few waits", done)
	}
}
