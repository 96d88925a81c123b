package whole

import (
	"slices"
	"testing"

	"repartee/api"
	"repartee/flow"
	"repartee/solo"
)

// P24.3: how many steps there are, at which ops, and that without a loop each op is left once.
func TestFlowLaws(t *testing.T) {
	for seed := range 3000 {
		r := from(seed)
		s, p := r.setup(), r.script()
		out := run(t, s, p, r.inputs(150))
		steps, reach := solo.Steps(out), flow.Reach(p)
		if len(steps) > flow.Most(s, p)+solo.Came(out) {
			t.Fatal("too many steps", seed, len(steps))
		}
		left := map[int]int{}
		for _, x := range steps {
			if !slices.Contains(reach, x.At) {
				t.Fatal("not in Reach", seed, x.At)
			}
			if x.What != api.WLook && x.What != api.WLoad {
				left[x.At]++
			}
		}
		for at, n := range left {
			if n > 1 && !flow.Loops(p) {
				t.Fatal("left more than once", seed, at)
			}
		}
	}
}
