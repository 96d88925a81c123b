package whole

import (
	"slices"
	"strings"
	"testing"

	"repartee/api"
	"repartee/engine"
)

// made is an engine.
func made(t *testing.T, s api.Setup, scripts []api.Prog) *engine.Engine {
	e, err := engine.New(s, scripts...)
	if err != api.OK {
		t.Fatal(err)
	}
	return e
}

// distinct tells whether each number of a list stands in it once.
func distinct(l []int) bool {
	l = slices.Sorted(slices.Values(l))
	return len(slices.Compact(slices.Clone(l))) == len(l)
}

// sorts checks what an engine tells of who is live, waits, has a deadline, may be read and written.
func sorts(t *testing.T, s api.Setup, e *engine.Engine, seed int) {
	live, ready, timers := e.Live(), e.Ready(), e.Timers()
	var timed []int
	for i, x := range timers {
		timed = append(timed, x.Id)
		if i > 0 && x.At < timers[i-1].At || x.At == api.Never {
			t.Fatal("timers", seed, timers)
		}
	}
	if len(live) > s.Live || !slices.IsSorted(live) || !distinct(live) || !distinct(ready) || !distinct(timed) {
		t.Fatal("live, ready, timers", seed, live, ready, timers)
	}
	for _, id := range slices.Concat(ready, timed, e.Reads(), e.Writes()) {
		if status, ok := e.Status(id); !slices.Contains(live, id) || status != api.SRun || !ok {
			t.Fatal("not live", seed, id)
		}
	}
	if e.Stopped() && len(live) > 0 || e.Stopped() && !e.Draining() {
		t.Fatal("stopped", seed)
	}
}

// P29.4: who is live, what is read and taken, and what comes behind EvStop.
func TestEngineLaws(t *testing.T) {
	stops := 0
	for seed := range 1500 {
		r := from(seed)
		s, scripts := r.setup(), r.scripts()
		e := made(t, s, scripts)
		sent, read := map[int]string{}, map[int]string{}
		closed := map[int]bool{}
		stopped := false
		for _, x := range r.rounds(60) {
			live := e.Live()
			told := e.Round(x)
			for _, v := range told {
				if v.Kind == api.EvOpen {
					live = append(live, v.Id)
				}
			}
			for _, o := range x.Offers {
				if slices.Contains(live, o.Id) && !closed[o.Id] {
					sent[o.Id] += o.Bytes
					closed[o.Id] = o.Eof
				}
			}
			for _, v := range told {
				if stopped && v.Kind != api.EvRound && v.Kind != api.EvRefuse {
					t.Fatal("behind EvStop", seed, v)
				}
				stopped = stopped || v.Kind == api.EvStop
				if v.Kind == api.EvRead {
					read[v.Id] += v.Bytes
				}
				if v.Kind == api.EvEof && (read[v.Id] != sent[v.Id] || !closed[v.Id]) {
					t.Fatal("end of file", seed, v)
				}
			}
			sorts(t, s, e, seed)
			if e.Stopped() != stopped {
				t.Fatal("Stopped", seed)
			}
		}
		for id, b := range read {
			if !strings.HasPrefix(sent[id], b) {
				t.Fatal("read", seed, id)
			}
		}
		if stopped {
			stops++
		}
	}
	if stops < 100 {
		t.Error("too few stops", stops)
	}
}
