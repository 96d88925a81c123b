package replay

import (
	"slices"
	"testing"

	"repartee/api"
	"repartee/engine"
	"repartee/parse"
	"repartee/world"
)

const never = api.Never

// short events.
func round(at int64) api.Event { return api.Event{Kind: api.EvRound, Tick: at} }
func open(id, n int) api.Event { return api.Event{Kind: api.EvOpen, Id: id, N: n} }
func eof(id int) api.Event     { return api.Event{Kind: api.EvEof, Id: id} }
func drain(at int64) api.Event { return api.Event{Kind: api.EvDrain, Tick: at} }
func ends(id int) api.Event {
	return api.Event{Kind: api.EvStep, Id: id, Step: api.Step{What: 1, Status: 5}}
}
func looks(id int) api.Event { return api.Event{Kind: api.EvStep, Id: id, Step: api.Step{What: 1}} }
func refuse(n int) api.Event {
	return api.Event{Kind: api.EvRefuse, Id: -1, N: n, Err: api.ErrLong}
}
func read(id int, b string) api.Event {
	return api.Event{Kind: api.EvRead, Id: id, N: len(b), Bytes: b}
}
func wrote(id, n int) api.Event { return api.Event{Kind: api.EvWrite, Id: id, N: n, Bytes: "xy"} }

var stop = api.Event{Kind: api.EvStop}

// P40.1: Rounds.
func TestRounds(t *testing.T) {
	for i, x := range []struct {
		l    []api.Event
		want []api.Round
	}{
		{nil, nil}, {[]api.Event{open(0, 3), read(0, "x"), drain(3)}, nil},
		{[]api.Event{round(3), open(0, 0), round(5), read(0, "ok")}, []api.Round{{Ticks: 3, Opens: []int{0}}, {Ticks: 2, Offers: []api.Offer{{Id: 0, Bytes: "ok"}}, Reports: []api.Report{{Id: 0, Read: true}}}}},
		{[]api.Event{round(5), round(3), round(4), round(never), round(never)}, []api.Round{{Ticks: 5}, {}, {Ticks: 1}, {Ticks: never}, {Ticks: never}}},
		{[]api.Event{drain(9), round(1), refuse(7), open(4, 2), refuse(-3), looks(4), stop}, []api.Round{{Ticks: 1, Opens: []int{7, 2, -3}}}},
		{[]api.Event{round(0), read(1, "ab"), eof(1), wrote(2, 5), eof(2), read(3, "c"), eof(1)}, []api.Round{{
			Offers:  []api.Offer{{Id: 1, Bytes: "ab", Eof: true}, {Id: 2, Eof: true}, {Id: 3, Bytes: "c"}, {Id: 1, Eof: true}},
			Reports: []api.Report{{Id: 1, Read: true}, {Id: 2, Write: true, Accept: 5}, {Id: 2, Read: true}, {Id: 3, Read: true}, {Id: 1, Read: true}}}}},
		{[]api.Event{round(0), read(1, "ab"), wrote(1, 2), eof(1)}, []api.Round{{Offers: []api.Offer{{Id: 1, Bytes: "ab"}, {Id: 1, Eof: true}}, Reports: []api.Report{{Id: 1, Read: true}, {Id: 1, Write: true, Accept: 2}, {Id: 1, Read: true}}}}},
		// A round ahead tells no end of file's bytes.
		{[]api.Event{round(0), read(1, "ab"), round(0), eof(1)}, []api.Round{{Offers: []api.Offer{{Id: 1, Bytes: "ab"}}, Reports: []api.Report{{Id: 1, Read: true}}}, {Offers: []api.Offer{{Id: 1, Eof: true}}, Reports: []api.Report{{Id: 1, Read: true}}}}},
		// Drains, the first of each round alone.
		{[]api.Event{round(8), drain(11), drain(90), round(9), drain(9), round(9), drain(3)}, []api.Round{{Ticks: 8, Drain: 4}, {Ticks: 1, Drain: 1}, {Drain: 1}}},
		{[]api.Event{round(8), drain(never)}, []api.Round{{Ticks: 8, Drain: never}}},
		{[]api.Event{round(8), drain(8), stop}, []api.Round{{Ticks: 8, Abort: true}}},
		// Who is live: of two who were opened one ended, and one of that number was opened again.
		{[]api.Event{round(1), open(0, 0), open(1, 0), ends(0), round(2), drain(2), ends(1), stop}, []api.Round{{Ticks: 1, Opens: []int{0, 0}}, {Ticks: 1, Abort: true}}},
		{[]api.Event{round(1), open(0, 0), open(1, 0), ends(0), round(2), open(0, 3), drain(2), ends(0), ends(1), stop}, []api.Round{{Ticks: 1, Opens: []int{0, 0}}, {Ticks: 1, Opens: []int{3}, Abort: true}}},
		{[]api.Event{round(1), open(0, 0), open(1, 0), looks(0), round(2), drain(2), ends(1), stop}, []api.Round{{Ticks: 1, Opens: []int{0, 0}}, {Ticks: 1, Drain: 1}}},
		{[]api.Event{open(5, 0), round(1), open(1, 0), open(1, 0), ends(7), drain(1), ends(1), stop}, []api.Round{{Ticks: 1, Opens: []int{0, 0}, Abort: true}}},
		{[]api.Event{round(1), open(1, 0), drain(1), ends(1)}, []api.Round{{Ticks: 1, Opens: []int{0}, Drain: 1}}},
	} {
		if got := Rounds(x.l); !slices.EqualFunc(got, x.want, world.Same) {
			t.Errorf("%d:\n got %+v\nwant %+v", i, got, x.want)
		}
	}
}

// P40.2: Aborts.
func TestAborts(t *testing.T) {
	for i, x := range []struct {
		live int
		l    []api.Event
		want bool
	}{
		{0, nil, false}, {0, []api.Event{round(3)}, false}, {0, []api.Event{round(3), drain(3), stop}, true}, {0, []api.Event{drain(0), stop}, true}, {0, []api.Event{drain(3), stop}, false}, {0, []api.Event{round(3), drain(4), stop}, false}, {0, []api.Event{round(3), round(4), drain(4), stop}, true},
		{1, []api.Event{round(3), drain(3), stop}, false}, {2, []api.Event{round(3), open(9, 0), drain(3), ends(0), ends(9), stop}, true}, {2, []api.Event{round(3), drain(3), ends(9), ends(0), stop}, false}, {2, []api.Event{round(3), drain(3), ends(0), ends(0), stop}, false}, {2, []api.Event{round(3), drain(3), ends(0), looks(9), stop}, false}, {2, []api.Event{round(3), drain(3), ends(0), ends(9)}, false}, {1, []api.Event{round(3), drain(3), ends(0), ends(9), stop}, false}, {3, []api.Event{round(3), drain(3), ends(0), ends(9), stop}, false},
		{3, []api.Event{round(3), drain(3), ends(0), ends(5), ends(9), stop}, true}, {3, []api.Event{round(3), drain(3), ends(0), ends(9), ends(5), stop}, false}, {3, []api.Event{round(3), drain(3), ends(5), ends(0), ends(9), stop}, false},
		{1, []api.Event{round(3), drain(3), ends(0), stop, stop}, false}, {1, []api.Event{round(3), drain(3), ends(0), stop, round(4)}, false}, {1, []api.Event{round(3), drain(3), read(0, "x"), ends(0), stop}, false}, {2, []api.Event{round(3), drain(3), eof(0), ends(1), stop}, false}, {1, []api.Event{round(3), drain(4), drain(3), ends(0), stop}, false},
		{-1, []api.Event{round(3), drain(3)}, false}, {-1, []api.Event{round(3), drain(3), stop}, false}, {1<<63 - 1, []api.Event{round(3), drain(3), stop}, false}, {-1 << 63, []api.Event{drain(0)}, false},
	} {
		if Aborts(x.live, x.l) != x.want {
			t.Error(i)
		}
	}
}

// P40.3: Again and Apart.
func TestAgainApart(t *testing.T) {
	s := api.Setup{Live: 2, Ring: 4, Win: 8, Out: 3, Quantum: 100, Visits: 9}
	p, _, _ := parse.Parse("script a 99 9\nsend \"hello\"\nexpect 50\non \"ok\" b\nlabel b")
	e, _ := engine.New(s, p)
	var l []api.Event
	for _, r := range []api.Round{{Ticks: 3, Opens: []int{0, 1, 0, 0}}, {Offers: []api.Offer{{Bytes: "xokay", Eof: true}}, Reports: []api.Report{{Read: true, Write: true, Accept: 2}}}, {Ticks: 2, Reports: []api.Report{{Write: true, Accept: 9}}}, {Abort: true}, {Opens: []int{0}}} {
		l = append(l, e.Round(r)...)
	}
	if ok, e := Again(s, []api.Prog{p}, append([]api.Event{stop, open(0, 0)}, l...)); !ok || e != api.OK {
		t.Error(ok, e)
	}
	if ok, e := Again(s, []api.Prog{p}, l); !ok || e != api.OK {
		t.Error(ok, e)
	}
	if ok, e := Again(s, nil, l); ok || e != api.OK {
		t.Error("other scripts", ok, e)
	}
	if ok, e := Again(s, []api.Prog{p}, append(slices.Clone(l), stop)); ok || e != api.OK {
		t.Error("more", ok, e)
	}
	for i, x := range l {
		if x.Kind != api.EvStep && x.Kind != api.EvStop {
			continue
		}
		if ok, e := Again(s, []api.Prog{p}, slices.Delete(slices.Clone(l), i, i+1)); ok || e != api.OK {
			t.Error("less", i, ok, e)
		}
	}
	for _, l := range [][]api.Event{nil, {stop, drain(3)}} {
		if ok, e := Again(s, nil, l); !ok || e != api.OK {
			t.Error("no round", ok, e)
		}
	}
	if ok, e := Again(api.Setup{}, nil, l); ok || e != api.ErrArg {
		t.Error(ok, e)
	}
	if ok, e := Again(s, make([]api.Prog, 65), l); ok || e != api.ErrLong {
		t.Error(ok, e)
	}
	a := []api.Event{round(1), open(0, 0), stop}
	for i, x := range []struct {
		b     []api.Event
		at    int
		apart bool
	}{{a, 0, false}, {a[:2], 2, true}, {nil, 0, true}, {[]api.Event{round(2), open(0, 0), stop}, 0, true}, {[]api.Event{round(1), open(0, 1)}, 1, true}, {append(slices.Clone(a), stop), 3, true}} {
		if at, apart := Apart(a, x.b); at != x.at || apart != x.apart {
			t.Error(i, at, apart)
		}
		if at, apart := Apart(x.b, a); at != x.at || apart != x.apart {
			t.Error(i, at, apart)
		}
	}
	if at, apart := Apart(nil, []api.Event{}); at != 0 || apart {
		t.Error("none")
	}
}
