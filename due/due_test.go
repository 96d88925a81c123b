package due

import (
	"testing"

	"repartee/api"
)

const never = api.Never

// P21.1: Free, Begin, Wait, Rest, Cuts.
func TestMade(t *testing.T) {
	if Free() != (Due{never, never, never}) {
		t.Error("Free")
	}
	for _, x := range []struct{ now, last, limit int64 }{{3, 4, 7}, {3, never, never}, {never - 3, 5, never}, {never - 3, 2, never - 1}, {-3, 4, 4}, {3, -4, 3}, {0, 0, 0}} {
		if d := Begin(x.now, x.last); d != (Due{never, x.limit, never}) {
			t.Error("Begin", x, d)
		}
		if d := (Due{1, 2, 3}).Wait(x.now, x.last); d != (Due{x.limit, 2, 3}) {
			t.Error("Wait", x, d)
		}
	}
	if d := (Due{1, 2, 3}).Rest(); d != (Due{never, 2, 3}) {
		t.Error("Rest", d)
	}
	for _, x := range []struct{ cut, at, want int64 }{{never, 5, 5}, {5, never, 5}, {5, 6, 5}, {5, 4, 4}, {5, -4, 0}, {never, never, never}, {0, 3, 0}} {
		if d := (Due{1, 2, x.cut}).Cuts(x.at); d != (Due{1, 2, x.want}) {
			t.Error("Cuts", x, d)
		}
	}
}

// P21.2: First, Over, Woken.
func TestAsked(t *testing.T) {
	if (Due{9, 9, 9}).First() != 9 || (Due{1, 2, 3}).First() != 1 || (Due{3, 1, 2}).First() != 1 || (Due{3, 2, 1}).First() != 1 || Free().First() != never || (Due{-3, 2, 1}).First() != 0 {
		t.Error("First")
	}
	for _, x := range []struct {
		limit, cut, now int64
		status          int
		ok              bool
	}{{9, 9, 9, api.SDeadline, true}, {9, 8, 9, api.SDrained, true}, {9, 8, 8, api.SDrained, true}, {8, 9, 8, api.SDeadline, true}, {8, 9, 99, api.SDeadline, true}, {9, 9, 8, 0, false}, {9, never, 9, api.SDeadline, true}, {never, 9, 9, api.SDrained, true}, {never, never, never, 0, false}, {0, 0, -4, api.SDeadline, true}, {-2, -3, 0, api.SDeadline, true}, {9, never, 8, 0, false}, {never, 9, 8, 0, false}} {
		if status, ok := (Due{never, x.limit, x.cut}).Over(x.now); status != x.status || ok != x.ok {
			t.Error("Over", x, status, ok)
		}
	}
	if !(Due{5, never, never}).Woken(5) || (Due{5, 1, 1}).Woken(4) || Free().Woken(never) || !(Due{-5, 9, 9}).Woken(-7) {
		t.Error("Woken")
	}
}

// P21.3: First is Due just if it is Over or Woken; what is Over stays so.
func TestLaws(t *testing.T) {
	ticks := []int64{-2, 0, 1, 2, 3, never - 1, never}
	for _, a := range ticks {
		for _, b := range ticks {
			for _, c := range ticks {
				d := Due{a, b, c}
				for i, now := range ticks {
					status, over := d.Over(now)
					first := d.First()
					if (first != never && max(now, 0) >= first) != (over || d.Woken(now)) {
						t.Error(d, now)
					}
					for _, later := range ticks[i:] {
						if s, ok := d.Over(later); over && (s != status || !ok) {
							t.Error(d, now, later)
						}
					}
				}
			}
		}
	}
}
