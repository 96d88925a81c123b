package whole

import (
	"strings"
	"testing"

	"repartee/api"
	"repartee/cost"
	"repartee/dial"
)

// give gives d what comes to it: what is taken, and the step that it did.
func give(d *dial.Dial, x api.Input) (string, api.Step, bool) {
	switch x.Kind {
	case api.InBytes:
		d.Put(x.Bytes)
	case api.InEof:
		d.Eof()
	case api.InTaken:
		return d.Take(x.N), api.Step{}, false
	case api.InCut:
		d.Cut(x.Tick)
	case api.InStep:
		step, ok := d.Step(x.Tick)
		return "", step, ok
	}
	return "", api.Step{}, false
}

// readyInTime checks that time alone makes d ready just at its Next.
func readyInTime(t *testing.T, d *dial.Dial, now int64) {
	t.Helper()
	next := d.Next()
	if d.Ready(now) {
		return
	}
	for at := now; at < now+30; at++ {
		if d.Ready(at) != (next != api.Never && at >= next) {
			t.Fatal("ready at", at, "next", next)
		}
	}
	if next != api.Never && (d.Ready(next-1) || !d.Ready(next)) || next == api.Never && d.Ready(api.Never) {
		t.Fatal("not ready just at", next)
	}
}

// P22.7: time, prices, what is taken, and behind its end nothing changes.
func TestDialLaws(t *testing.T) {
	for seed := range 3000 {
		r := from(seed)
		s, p := r.setup(), r.script()
		d, e := dial.New(s, p, 0)
		if e != api.OK {
			t.Fatal(e)
		}
		taken, texts, now := "", "", int64(0)
		arrive := func() {
			if d.Status() == api.SRun && d.At() < len(p.Ops) {
				texts += p.Ops[d.At()].Text
			}
		}
		arrive()
		for _, x := range r.inputs(80) {
			if x.Kind == api.InStep {
				now = max(now, x.Tick)
			}
			readyInTime(t, d, now)
			ended, price := d.Status() != api.SRun, d.Price()
			if ended && price != 0 || !ended && (price < 1 || price > cost.Most(s)) {
				t.Fatal("price", price)
			}
			bytes, step, did := give(d, x)
			taken += bytes
			if ended && (did || bytes != "" || d.Window()+d.Pending() != "" || d.Waits()+d.Room() != 0 || d.Next() != api.Never) {
				t.Fatal("something changed behind the end")
			}
			if did && step.Status == api.SRun && step.What != api.WLook && step.What != api.WLoad {
				arrive()
			}
			if did && step.Status != d.Status() {
				t.Fatal("status", step, d.Status())
			}
		}
		if !strings.HasPrefix(texts, taken) {
			t.Fatal("taken", taken, "of", texts)
		}
	}
}
