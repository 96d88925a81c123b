package proj

import (
	"slices"
	"strings"
	"testing"

	"repartee/api"
	"repartee/engine"
	"repartee/parse"
)

// short events.
func round(at int64) api.Event { return api.Event{Kind: api.EvRound, Tick: at} }
func open(id, n int) api.Event { return api.Event{Kind: api.EvOpen, Id: id, N: n} }
func eof(id int) api.Event     { return api.Event{Kind: api.EvEof, Id: id} }
func drain(at int64) api.Event { return api.Event{Kind: api.EvDrain, Tick: at} }
func refuse(id int) api.Event  { return api.Event{Kind: api.EvRefuse, Id: id, Err: api.ErrFull} }
func read(id int, b string) api.Event {
	return api.Event{Kind: api.EvRead, Id: id, N: len(b), Bytes: b}
}
func write(id int, b string) api.Event {
	return api.Event{Kind: api.EvWrite, Id: id, N: len(b), Bytes: b}
}
func step(id int, x api.Step) api.Event { return api.Event{Kind: api.EvStep, Id: id, Step: x} }

// same tells whether two lives are the same.
func same(a, b Life) bool {
	return a.Id == b.Id && a.Script == b.Script && a.From == b.From && slices.Equal(a.In, b.In) && slices.Equal(a.Steps, b.Steps) && a.Read == b.Read && a.Taken == b.Taken && a.Eof == b.Eof && a.Status == b.Status
}

// P31.1: Rounds, Clocks, Ids.
func TestRoundsClocksIds(t *testing.T) {
	l := []api.Event{open(9, 0), round(3), open(2, 1), refuse(7), round(5), round(4), eof(2), open(9, 0), open(0, 0), read(4, "x")}
	rounds := Rounds(l)
	if !slices.EqualFunc(rounds, [][]api.Event{l[1:4], l[4:5], l[5:]}, slices.Equal) {
		t.Error(rounds)
	}
	rounds[1] = append(rounds[1], api.Event{})
	rounds[0][0].Tick = 99
	if !slices.Equal(rounds[2], l[5:]) || l[1].Tick != 3 {
		t.Error("not their own")
	}
	if !slices.Equal(Clocks(l), []int64{3, 5, 4}) || !slices.Equal(Ids(l), []int{0, 2, 9}) {
		t.Error(Clocks(l), Ids(l))
	}
	if len(Rounds(nil)) != 0 || len(Rounds(l[:1])) != 0 || len(Clocks(l[:1])) != 0 || len(Ids(l[:2])) != 1 || len(Ids(nil)) != 0 {
		t.Error("none")
	}
}

// P31.2: Of.
func TestOf(t *testing.T) {
	look, failed := api.Step{Tick: 6, What: api.WLook, N: 2}, api.Step{Tick: 9, What: api.WFail, Status: api.SFailed}
	l := []api.Event{
		read(1, "early"), drain(99), round(4), round(5), open(0, 3), open(1, 2),
		read(0, "other"), read(1, "ok"), refuse(1), round(6), write(1, "xy"), step(1, look), eof(0), step(0, failed), drain(20),
		read(1, "!"), open(1, 7), eof(1), eof(1), {Kind: api.EvWrite, Id: 1, N: 9, Bytes: "z"}, round(9), step(1, failed), drain(3), read(1, "late"), {Kind: api.EvStop}, {Kind: 77, Id: 1},
	}
	x, ok := Of(l, 1)
	want := Life{Id: 1, Script: 2, From: 5, In: []api.Input{
		{Kind: api.InBytes, Bytes: "ok"}, {Kind: api.InTaken, N: 2}, {Kind: api.InStep, Tick: 6}, {Kind: api.InCut, Tick: 20}, {Kind: api.InBytes, Bytes: "!"}, {Kind: api.InEof}, {Kind: api.InEof}, {Kind: api.InTaken, N: 9}, {Kind: api.InStep, Tick: 9}, {Kind: api.InBytes, Bytes: "late"},
	}, Steps: []api.Step{look, failed}, Read: "ok!late", Taken: "xyz", Eof: true, Status: api.SFailed}
	if !same(x, want) || !ok {
		t.Errorf("%+v %v", x, ok)
	}
	x, ok = Of(l, 0)
	if !same(x, Life{Id: 0, Script: 3, From: 5, In: []api.Input{{Kind: api.InBytes, Bytes: "other"}, {Kind: api.InEof}, {Kind: api.InStep, Tick: 9}}, Steps: []api.Step{failed}, Read: "other", Eof: true, Status: api.SFailed}) || !ok {
		t.Errorf("%+v %v", x, ok)
	}
	for _, id := range []int{-1, 2, 7} {
		if x, ok := Of(l, id); !same(x, Life{}) || ok {
			t.Error(id, x, ok)
		}
	}
	if x, ok := Of([]api.Event{round(7), open(3, 1)}, 3); !same(x, Life{Id: 3, Script: 1, From: 7}) || !ok {
		t.Error("right behind the first round", x, ok)
	}
	if x, ok := Of([]api.Event{open(3, 1), round(7)}, 3); !same(x, Life{Id: 3, Script: 1}) || !ok {
		t.Error("ahead of any round", x, ok)
	}
}

// P31.3: Holds.
func TestHolds(t *testing.T) {
	s := api.Setup{Live: 2, Ring: 4, Win: 8, Out: 3, Quantum: 100, Visits: 9}
	var scripts []api.Prog
	for _, text := range []string{"expect 50\non \"ok\" b\nlabel b\nsend \"hello\"\nexpect 5", "expect 9"} {
		p, _, _ := parse.Parse("script a 99 9\n" + text)
		scripts = append(scripts, p)
	}
	e, _ := engine.New(s, scripts...)
	var l []api.Event
	for _, r := range []api.Round{
		{Ticks: 3, Opens: []int{0, 1}, Offers: []api.Offer{{Id: 0, Bytes: "xok", Eof: true}, {Id: 1, Bytes: "zz"}}},
		{Ticks: 1, Reports: []api.Report{{Id: 0, Read: true}, {Id: 1, Read: true}}},
		{Ticks: 1, Reports: []api.Report{{Id: 0, Write: true, Accept: 2}}, Drain: 4},
		{Ticks: 1, Reports: []api.Report{{Id: 0, Write: true, Accept: 9}}},
		{Ticks: 1, Reports: []api.Report{{Id: 0, Write: true, Accept: 9}}},
		{Ticks: 9},
	} {
		l = append(l, e.Round(r)...)
	}
	if id, ok := Holds(s, scripts, l); id != 0 || !ok {
		t.Fatal(id, ok, l)
	}
	// Who is opened anew has his first life alone, and one of whom nothing was opened has none.
	if id, ok := Holds(s, scripts, append(slices.Clone(l), open(0, 1), eof(9), read(9, "x"))); id != 0 || !ok {
		t.Error("opened anew", id, ok)
	}
	late := api.Step{Tick: 50, What: api.WTimeout, Status: api.SFailed}
	early := late
	early.Tick = 49
	ahead := []api.Event{open(0, 0), step(0, late)}
	if id, ok := Holds(s, scripts, ahead); id != 0 || !ok {
		t.Error("ahead of any round", id, ok)
	}
	if id, ok := Holds(s, scripts, []api.Event{open(0, 0), step(0, early)}); id != 0 || ok {
		t.Error("too early", id, ok)
	}
	if id, ok := Holds(s, nil, nil); id != 0 || !ok {
		t.Error("no life", id, ok)
	}
	// Whatever is changed of what was told of one breaks it, and is told of the least one.
	broken := 0
	for i, x := range l {
		for _, y := range changed(x) {
			m := slices.Clone(l)
			m[i] = y
			if id, ok := Holds(s, scripts, m); ok || id != x.Id {
				t.Errorf("%+v changed to %+v: %d %v", x, y, id, ok)
			}
			broken++
		}
	}
	if broken < 20 {
		t.Error("too few", broken)
	}
	for _, m := range [][]api.Prog{nil, scripts[:1], {scripts[0], {}}} {
		if id, ok := Holds(s, m, l); ok || id != min(len(m), 1) {
			t.Error(len(m), id, ok)
		}
	}
	if id, ok := Holds(api.Setup{}, scripts, l); ok || id != 0 {
		t.Error("no setup", id, ok)
	}
	if id, ok := Holds(s, scripts, []api.Event{open(5, -1), open(3, 2)}); ok || id != 3 {
		t.Error("the least one", id, ok)
	}
}

// changed is an event told otherwise, so that its life can't hold.
func changed(x api.Event) []api.Event {
	var l []api.Event
	but := func(change func(y *api.Event)) {
		y := x
		change(&y)
		l = append(l, y)
	}
	switch x.Kind {
	case api.EvRead:
		but(func(y *api.Event) { y.Bytes += "more than fits" })
	case api.EvWrite:
		but(func(y *api.Event) { y.Bytes = strings.ToUpper(y.Bytes) })
		but(func(y *api.Event) { y.Bytes += "x" })
		but(func(y *api.Event) { y.N = 0 })
	case api.EvStep:
		but(func(y *api.Event) { y.Step.Tick = 0 })
		but(func(y *api.Event) { y.Step.At++ })
		but(func(y *api.Event) { y.Step.What++ })
		but(func(y *api.Event) { y.Step.Arm++ })
		but(func(y *api.Event) { y.Step.N++ })
		but(func(y *api.Event) { y.Step.Status++ })
	}
	return l
}

// P31.4: what is told of others changes no life.
func TestOthers(t *testing.T) {
	l := []api.Event{round(1), open(0, 0), open(1, 0), read(0, "a"), read(1, "b"), step(0, api.Step{Tick: 1, What: 1}), eof(1), write(1, "x")}
	var mine []api.Event
	for _, x := range l {
		if x.Id == 0 {
			mine = append(mine, x)
		}
	}
	a, _ := Of(l, 0)
	b, _ := Of(mine, 0)
	if !same(a, b) {
		t.Error(a, b)
	}
}
