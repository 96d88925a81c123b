package whole

import (
	"slices"
	"testing"

	"repartee/api"
	"repartee/solo"
)

// run is what a dialogue of some inputs tells.
func run(t *testing.T, s api.Setup, p api.Prog, l []api.Input) []solo.Out {
	out, e := solo.Run(s, p, 0, l...)
	if e != api.OK || len(out) != len(l) {
		t.Fatal(e)
	}
	return out
}

// P23.3: later inputs, bytes in two pieces, bytes and what is taken either way round.
func TestSoloLaws(t *testing.T) {
	for seed := range 2000 {
		r := from(seed)
		s, p, l := r.setup(), r.script(), r.inputs(60)
		out := run(t, s, p, l)
		n := r.Intn(len(l))
		if !slices.Equal(run(t, s, p, l[:n]), out[:n]) {
			t.Fatal("later inputs", seed)
		}
		x := l[n]
		if x.Kind == api.InBytes {
			cut := r.Intn(len(x.Bytes) + 1)
			a, b := x, x
			a.Bytes, b.Bytes = x.Bytes[:cut], x.Bytes[cut:]
			two := run(t, s, p, slices.Concat(l[:n], []api.Input{a, b}, l[n+1:]))
			if two[n].N+two[n+1].N != out[n].N || !slices.Equal(two[n+2:], out[n+1:]) {
				t.Fatal("two pieces", seed)
			}
		}
		bytes, taken := api.Input{Kind: api.InBytes, Bytes: r.bytes(5)}, api.Input{Kind: api.InTaken, N: r.Intn(5)}
		a := run(t, s, p, slices.Concat(l[:n], []api.Input{bytes, taken}, l[n:]))
		b := run(t, s, p, slices.Concat(l[:n], []api.Input{taken, bytes}, l[n:]))
		a[n], a[n+1] = a[n+1], a[n]
		if !slices.Equal(a, b) {
			t.Fatal("either way round", seed)
		}
	}
}
