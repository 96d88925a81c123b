package whole

import (
	"slices"
	"testing"

	"repartee/api"
	"repartee/ledger"
)

// P38.4: Total of one alone is his row; what others do changes no row.
func TestLedgerLaws(t *testing.T) {
	for seed := range 300 {
		x := sampled(t, seed)
		for _, r := range ledger.Rows(x.told) {
			mine := slices.DeleteFunc(slices.Clone(x.told), func(v api.Event) bool {
				return v.Kind != api.EvRound && v.Kind != api.EvDrain && v.Id != r.Id
			})
			got, ok := ledger.Of(mine, r.Id)
			if got != r || !ok {
				t.Fatal("others", seed, r, got)
			}
			total := ledger.Total(mine)
			total.Id, total.Script, total.Status = r.Id, r.Script, r.Status
			if total != r {
				t.Fatal("Total", seed, r, total)
			}
		}
	}
}
