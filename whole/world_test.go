package whole

import (
	"slices"
	"testing"

	"repartee/api"
	"repartee/world"
)

// P32.4: Read of Write is the rounds.
func TestWorldLaws(t *testing.T) {
	for seed := range 500 {
		l := from(seed).rounds(60)
		text, e := world.Write(l)
		got, spot, f := world.Read(text)
		if e != api.OK || f != api.OK || spot != (api.Spot{}) || !slices.EqualFunc(got, l, world.Same) {
			t.Fatal(seed, e, f, spot)
		}
	}
}
