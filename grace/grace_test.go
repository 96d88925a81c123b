package grace

import (
	"slices"
	"testing"

	"repartee/api"
)

const never = api.Never

// plain is a setup of which Wait is 2.
var plain = api.Setup{Live: 2, Ring: 4, Win: 3, Out: 3, Quantum: 4, Visits: 1}

// short events.
func round(at int64) api.Event { return api.Event{Kind: api.EvRound, Tick: at} }
func drain(at int64) api.Event { return api.Event{Kind: api.EvDrain, Tick: at} }
func open(id int) api.Event    { return api.Event{Kind: api.EvOpen, Id: id} }
func step(id int, at int64, status int) api.Event {
	return api.Event{Kind: api.EvStep, Id: id, Step: api.Step{Tick: at, What: 1, Status: status}}
}

var (
	stop   = api.Event{Kind: api.EvStop}
	refuse = api.Event{Kind: api.EvRefuse, Err: 8}
)

// P37.1: Begin and Bound.
func TestBeginBound(t *testing.T) {
	if at, ok := Begin([]api.Event{round(3), drain(9), drain(4)}); at != 9 || !ok {
		t.Error(at, ok)
	}
	if at, ok := Begin([]api.Event{round(3), stop}); at != 0 || ok {
		t.Error(at, ok)
	}
	for i, x := range []struct {
		s    api.Setup
		l    []api.Event
		each int64
		at   int64
		ok   bool
	}{
		{plain, []api.Event{drain(10), round(13)}, 1, 13, true}, {plain, []api.Event{drain(10), round(12)}, 1, 0, false}, {plain, []api.Event{drain(10), round(99), round(12)}, 1, 0, false}, {plain, []api.Event{drain(10), drain(1), round(99)}, 2, 16, true},
		{plain, []api.Event{round(99)}, 1, 0, false}, {plain, []api.Event{drain(10), round(99)}, 0, 0, false}, {plain, []api.Event{drain(10), round(99)}, -4, 0, false}, {api.Setup{}, []api.Event{drain(10), round(99)}, 1, 0, false}, {plain, []api.Event{drain(never), round(never)}, 1, 0, false}, {plain, []api.Event{drain(1), round(never)}, never, 0, false}, {plain, nil, 1, 0, false},
	} {
		if at, ok := Bound(x.s, x.l, x.each); at != x.at || ok != x.ok {
			t.Error(i, at, ok)
		}
	}
}

// P37.2: Late and Stops.
func TestLateStops(t *testing.T) {
	// Of a drain at 10 the bound is 13.
	l := []api.Event{round(5), open(9), open(4), open(0), open(7), open(4), step(9, 5, 1), drain(10), open(2), round(12), step(4, 12, 5), step(0, 12, 0), step(7, 13, 5), round(13)}
	if got := Late(plain, l, 1); !slices.Equal(got, []int{0, 7}) {
		t.Error(got)
	}
	if got := Late(plain, append(slices.Clone(l), step(0, 12, 3)), 1); !slices.Equal(got, []int{7}) {
		t.Error(got)
	}
	if got := Late(plain, l[:len(l)-1], 1); len(got) != 0 {
		t.Error("no bound", got)
	}
	if got := Late(plain, []api.Event{open(3), drain(10), round(13)}, 1); !slices.Equal(got, []int{3}) {
		t.Error("no step", got)
	}
	for i, x := range []struct {
		l  []api.Event
		ok bool
	}{
		{[]api.Event{drain(10), round(12), stop, round(13)}, true}, {[]api.Event{drain(10), round(13), stop}, false}, {[]api.Event{drain(10), round(13)}, false}, {[]api.Event{drain(10), round(12)}, true}, {[]api.Event{round(99)}, true}, {[]api.Event{drain(10), stop, round(13)}, false}, {[]api.Event{drain(10), round(12), round(13), stop}, false}, {[]api.Event{drain(10), round(13), stop, round(12), stop, round(14)}, true},
	} {
		if Stops(plain, x.l, 1) != x.ok {
			t.Error(i)
		}
	}
}

// P37.3: Closed and Once.
func TestClosedOnce(t *testing.T) {
	for i, x := range []struct {
		l  []api.Event
		ok bool
	}{
		{nil, true}, {[]api.Event{round(1), open(0)}, true}, {[]api.Event{open(0), drain(3), round(2), step(0, 2, 5), stop, round(3), refuse}, true}, {[]api.Event{drain(3), open(0)}, false}, {[]api.Event{drain(3), round(3), open(0), drain(4)}, false}, {[]api.Event{drain(3), stop, step(0, 3, 0)}, false}, {[]api.Event{stop, round(3), drain(3)}, false}, {[]api.Event{stop, stop}, false}, {[]api.Event{stop}, true}, {[]api.Event{stop, open(0)}, false}, {[]api.Event{stop, {Kind: 0}}, false},
	} {
		if Closed(x.l) != x.ok {
			t.Error(i)
		}
	}
	l := []api.Event{step(0, 1, 0), step(1, 1, 2), step(0, 2, 3), step(2, 2, 5), step(1, 3, 0), step(2, 3, 5), step(3, 1, 0)}
	for id, want := range []bool{true, false, false, true, true} {
		if Once(l, id) != want {
			t.Error(id)
		}
	}
}
