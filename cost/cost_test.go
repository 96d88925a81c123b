package cost

import (
	"testing"

	"repartee/api"
)

// plain is a setup that may be.
var plain = api.Setup{Live: 5, Ring: 7, Win: 10, Out: 4, Quantum: 3, Visits: 2}

// setups are setups that may be, the edges too.
func setups() []api.Setup {
	return []api.Setup{plain, {Live: 1, Ring: 1, Win: 1, Out: 1, Quantum: 1, Visits: 1}, {Live: api.MaxLive, Ring: api.MaxRing, Win: api.MaxWin, Out: api.MaxOut, Quantum: api.MaxQuantum, Visits: api.MaxVisits}, {Live: api.MaxLive, Ring: 1, Win: 3, Out: api.MaxOut, Quantum: 1, Visits: 1}, {Live: 2, Ring: 1, Win: 5, Out: 9, Quantum: 10, Visits: 1}, {Live: 2, Ring: 1, Win: 5, Out: 9, Quantum: 9, Visits: 1}}
}

// bad are setups that may not be.
func bad() []api.Setup {
	var l []api.Setup
	for _, n := range []int{-1 << 62, -1, 0, api.MaxQuantum + 1, 1 << 62} {
		for part := range 6 {
			s := plain
			*[]*int{&s.Live, &s.Ring, &s.Win, &s.Out, &s.Quantum, &s.Visits}[part] = n
			l = append(l, s)
		}
	}
	for part, most := range []int{api.MaxLive, api.MaxRing, api.MaxWin, api.MaxOut, api.MaxQuantum, api.MaxVisits} {
		s := plain
		*[]*int{&s.Live, &s.Ring, &s.Win, &s.Out, &s.Quantum, &s.Visits}[part] = most + 1
		l = append(l, s)
	}
	return append(l, api.Setup{})
}

// P18.1: Good, and that of others all is 0.
func TestGood(t *testing.T) {
	for _, s := range setups() {
		if !Good(s) {
			t.Error(s)
		}
	}
	for _, s := range bad() {
		if Good(s) || Most(s) != 0 || Turns(s) != 0 || Wait(s) != 0 || Until(s, 5, 5) != 0 || Price(s, api.OpExpect, 1, 1) != 0 || Price(s, api.OpDone, 0, 0) != 0 {
			t.Error(s)
		}
	}
}

// P18.2: Price and Most.
func TestPriceMost(t *testing.T) {
	const big = 1<<63 - 1
	for i, x := range []struct{ kind, fresh, waits, want int }{
		{api.OpExpect, 0, 0, 1}, {api.OpExpect, 3, 4, 8}, {api.OpExpect, 6, 4, 11}, {api.OpExpect, 6, 5, 11}, {api.OpExpect, -6, 5, 6}, {api.OpExpect, 6, -5, 7}, {api.OpExpect, -1, -1, 1}, {api.OpExpect, big, big, 11}, {api.OpExpect, big, -big, 11}, {api.OpExpect, 1, big, 11},
		{api.OpSend, 9, 0, 1}, {api.OpSend, 9, 3, 4}, {api.OpSend, 9, 4, 5}, {api.OpSend, 9, 5, 5}, {api.OpSend, 9, -5, 1}, {api.OpSend, 0, big, 5},
		{api.OpGoto, 9, 9, 1}, {api.OpPause, 9, 9, 1}, {api.OpDone, 9, 9, 1}, {api.OpFail, 9, 9, 1}, {0, 9, 9, 1}, {7, 9, 9, 1}, {-1, 9, 9, 1},
	} {
		if got := Price(plain, x.kind, x.fresh, x.waits); got != x.want {
			t.Error(i, got, x.want)
		}
	}
	if Most(plain) != 11 || Most(api.Setup{Live: 2, Ring: 1, Win: 5, Out: 9, Quantum: 10, Visits: 1}) != 10 {
		t.Error("Most")
	}
}

// P18.3: Turns, Wait, Until.
func TestTurnsWaitUntil(t *testing.T) {
	if Turns(plain) != 4 || Wait(plain) != 20 || Until(plain, 100, 2) != 142 {
		t.Error("example")
	}
	for i, want := range []int{4, 2, 1, 4097, 1, 2} {
		s := setups()[i]
		if Turns(s) != want || Wait(s) != want*s.Live {
			t.Error(s, Turns(s), Wait(s))
		}
	}
	if Until(plain, api.Never, 0) != api.Never || Until(plain, 5, api.Never) != api.Never || Until(plain, api.Never-43, 2) != api.Never-1 || Until(plain, api.Never-42, 2) != api.Never || Until(plain, -9, 2) != 42 || Until(plain, 5, -9) != 5 || Until(plain, 0, api.Never/20) != api.Never {
		t.Error("Until")
	}
}

// P18.4: no Price above Most, Quantum times Turns not below it, and no Price falls.
func TestLaws(t *testing.T) {
	for _, s := range setups() {
		if s.Quantum*Turns(s) < Most(s) {
			t.Error(s)
		}
		for kind := -1; kind < 8; kind++ {
			for _, fresh := range []int{-3, 0, 1, 5, 9, 4096, 1 << 62} {
				for _, waits := range []int{-3, 0, 1, 5, 9, 4096, 1 << 62} {
					x := Price(s, kind, fresh, waits)
					if x < 1 || x > Most(s) || x > Price(s, kind, fresh+1, waits) || x > Price(s, kind, fresh, waits+1) {
						t.Error(s, kind, fresh, waits, x)
					}
				}
			}
		}
	}
}
