package whole

import (
	"testing"

	"repartee/api"
	"repartee/fair"
	"repartee/grace"
	"repartee/proj"
	"repartee/prompt"
	"repartee/sends"
	"repartee/waits"
)

// P35.4, and P2 of the whole: no wait is late, and many are done, of those that have a bound.
func TestWaitsLaws(t *testing.T) {
	done := 0
	for seed := range 1500 {
		x := sampled(t, seed)
		each := fair.Ticks(x.told)
		if late := waits.Late(x.setup, x.scripts, x.told, each); len(late) != 0 {
			t.Fatal(seed, late)
		}
		for _, w := range waits.Of(x.scripts, x.told) {
			if w.Done && waits.Bound(x.setup, w, each) <= waits.Last(x.told) {
				done++
			}
		}
	}
	if done < 1000 {
		t.Error("too few waits", done)
	}
}

// P36.4, and P3 of the whole: no send is late, many are done, and what is taken is in order.
func TestSendsLaws(t *testing.T) {
	bound, done := 0, 0
	for seed := range 1500 {
		x := longer(t, seed)
		f, _, e := fair.Of(x.setup, x.scripts, x.rounds...)
		if e != api.OK {
			t.Fatal(e)
		}
		if late := sends.Late(x.setup, x.scripts, x.told, f.Write); len(late) != 0 {
			t.Fatal(seed, late)
		}
		for _, v := range sends.Of(x.scripts, x.told) {
			if v.From+sends.Bound(x.setup, v, f.Write) < len(x.rounds) {
				bound++
			}
			if v.Done && v.Taken == v.Long {
				done++
			}
		}
		for _, id := range proj.Ids(x.told) {
			if _, ok := sends.Order(x.scripts, x.told, id); !ok {
				t.Fatal("Order", seed, id)
			}
		}
	}
	if bound < 300 || done < 300 {
		t.Error("too few sends", bound, done)
	}
}

// longer is sampled, but with more rounds behind it, in which all are read and written.
func longer(t *testing.T, seed int) played {
	x := sampled(t, seed)
	for n := range 60 {
		r := api.Round{Ticks: int64(n % 2)}
		for _, id := range proj.Ids(x.told) {
			r.Reports = append(r.Reports, api.Report{Id: id, Read: true, Write: n%2 == 0, Accept: 3 - 3*(n%2)})
		}
		x.rounds = append(x.rounds, r)
	}
	x.do(t)
	return x
}

// P37.4, and P5 of the whole: behind a drain nobody is admitted, all end once and in time, then the engine stops.
func TestGraceLaws(t *testing.T) {
	bounds := 0
	for seed := range 1500 {
		x := longer(t, seed)
		each := fair.Ticks(x.told)
		if _, ok := grace.Bound(x.setup, x.told, each); ok {
			bounds++
		}
		if late := grace.Late(x.setup, x.told, each); len(late) != 0 || !grace.Stops(x.setup, x.told, each) || !grace.Closed(x.told) {
			t.Fatal(seed, late)
		}
		for _, id := range proj.Ids(x.told) {
			if !grace.Once(x.told, id) {
				t.Fatal("Once", seed, id)
			}
		}
	}
	if bounds < 100 {
		t.Error("too few drains with a bound", bounds)
	}
}

// P41.3, and P2 of the whole: no match is late, and what was found had been read.
func TestPromptLaws(t *testing.T) {
	lags, worst := 0, 0
	for seed := range 1500 {
		x := sampled(t, seed)
		if late := prompt.Late(x.setup, x.scripts, x.told); len(late) != 0 {
			t.Fatal(seed, late)
		}
		for _, v := range prompt.Of(x.scripts, x.told) {
			lags++
			if v.Read < 0 {
				t.Fatal("not read", seed, v)
			}
		}
		worst = max(worst, prompt.Worst(x.scripts, x.told))
	}
	if lags < 1000 || worst < 3 {
		t.Error("too few lags", lags, worst)
	}
}
