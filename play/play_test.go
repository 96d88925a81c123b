package play

import (
	"maps"
	"slices"
	"strings"
	"testing"

	"repartee/api"
	"repartee/load"
	"repartee/prog"
	"repartee/world"
)

// plain is a setup.
var plain = api.Setup{Live: 2, Ring: 4, Win: 8, Out: 3, Quantum: 100, Visits: 9}

// loaded is the scripts of a text.
func loaded(t *testing.T, text string) []load.Script {
	l, e := load.Load(text)
	if e != api.OK {
		t.Fatal(e)
	}
	return l
}

// rounds is the rounds of a text.
func rounds(t *testing.T, text string) []api.Round {
	l, spot, e := world.Read(text)
	if e != api.OK {
		t.Fatal(spot, e)
	}
	return l
}

// P33.1: Progs and Events.
func TestProgsEvents(t *testing.T) {
	l := loaded(t, "script a 9 0\nexpect 3\non \"x\" b\nlabel b\nscript b 9 0\ngoto z\nscript c 9 0")
	l[1].Prog.Name = "b"
	progs := Progs(l)
	if len(progs) != 3 || !prog.Same(progs[0], l[0].Prog) || !prog.Same(progs[1], api.Prog{}) || !prog.Same(progs[2], l[2].Prog) || len(Progs(nil)) != 0 {
		t.Error(progs)
	}
	progs[0].Ops[0].Arms[0].To = 7
	if l[0].Prog.Ops[0].Arms[0].To == 7 {
		t.Error("Progs shares a list")
	}
	told, e := Events(plain, Progs(l), rounds(t, "tick 1\nopen 2\nopen 1\ntick 2\nopen 7")...)
	want := []api.Event{{Kind: api.EvRound, Tick: 1}, {Kind: api.EvOpen, N: 2}, {Kind: api.EvRefuse, Id: 1, N: 1, Err: api.ErrForm}, {Kind: api.EvStep, Step: api.Step{Tick: 1, What: api.WDone, Status: api.SDone}}, {Kind: api.EvRound, Tick: 3}, {Kind: api.EvRefuse, Id: 2, N: 7, Err: api.ErrNone}}
	if e != api.OK || !slices.Equal(told, want) {
		t.Error(told, e)
	}
	if told, e := Events(plain, nil); len(told) != 0 || e != api.OK {
		t.Error(told, e)
	}
	if told, e := Events(api.Setup{}, nil, api.Round{}); len(told) != 0 || e != api.ErrArg {
		t.Error(told, e)
	}
	if told, e := Events(plain, make([]api.Prog, 65), api.Round{}); len(told) != 0 || e != api.ErrLong {
		t.Error(told, e)
	}
}

// P33.2: Play.
func TestPlay(t *testing.T) {
	s, spot, e := Play(plain, "script a 9 0", "tick 1\nopen 0")
	if s != "round 1\nopen 0 0\nstep 0 1 0 done 0 0 done\n" || spot != (api.Spot{}) || e != api.OK {
		t.Error(s, spot, e)
	}
	const scripts = "script a 99 9\nexpect 10\non \"ok\" b\nlabel b\nsend \"hello\"\nscript b 9 0\ngoto c\nscript c 9 0"
	const happens = "tick 3\nopen 0\nopen 1\noffer 0 \"xok\"\ntick 2\nread 0\nopen 2\ntick 0\nboth 0 3\ntick 1\nwrite 0 9"
	const want = "round 3\nopen 0 0\nrefuse 1 1 2\nround 5\nopen 2 2\nread 0 \"xok\"\nstep 2 5 0 done 0 0 done\nstep 0 5 0 match 0 3 run\nstep 0 5 1 load 0 3 run\nround 5\nwrite 0 \"hel\"\nstep 0 5 1 load 0 2 run\nround 6\nwrite 0 \"lo\"\nstep 0 6 1 sent 0 5 run\nstep 0 6 2 done 0 0 done\n"
	if s, spot, e := Play(plain, scripts, happens); s != want || spot != (api.Spot{}) || e != api.OK {
		t.Error(s, spot, e)
	}
	for _, x := range []struct {
		setup           api.Setup
		scripts, rounds string
		spot            api.Spot
		e               api.Errno
	}{
		{api.Setup{}, strings.Repeat("#", 40001), "foo", api.Spot{}, api.ErrArg}, {plain, strings.Repeat("#", 40001), "foo", api.Spot{}, api.ErrLong}, {plain, strings.Repeat("script\n", 65), "foo", api.Spot{}, api.ErrLong}, {plain, "", "tick 1\nfoo", api.Spot{Line: 2, Col: 1}, api.ErrWord}, {plain, "foo", "tick", api.Spot{Line: 1, Col: 5}, api.ErrEnd}, {plain, "", strings.Repeat("#", 40001), api.Spot{}, api.ErrLong},
	} {
		if s, spot, e := Play(x.setup, x.scripts, x.rounds); s != "" || spot != x.spot || e != x.e {
			t.Error(x.e, s, spot, e)
		}
	}
	if s, spot, e := Play(plain, "", ""); s != "" || spot != (api.Spot{}) || e != api.OK {
		t.Error(s, spot, e)
	}
}

// P33.3: Text and Ends.
func TestTextEnds(t *testing.T) {
	step := func(id, status int) api.Event {
		return api.Event{Kind: api.EvStep, Id: id, Step: api.Step{What: 1, Status: status}}
	}
	l := []api.Event{step(3, 2), {Kind: api.EvOpen, Id: 3}, {Kind: api.EvOpen, Id: 1}, step(1, 0), {Kind: api.EvOpen, Id: 0}, step(0, 4), step(1, 5), step(9, 1), {Kind: api.EvOpen, Id: 7}, {}}
	ends, stopped := Ends(l)
	if !maps.Equal(ends, map[int]int{3: 2, 1: 5, 0: 4, 7: 0}) || stopped {
		t.Error(ends, stopped)
	}
	if ends, stopped := Ends([]api.Event{{Kind: api.EvStop}}); len(ends) != 0 || !stopped {
		t.Error(ends, stopped)
	}
	if s := Text([]api.Event{{Kind: api.EvRound, Tick: 3}, {}, {Kind: api.EvStop}, {Kind: api.EvStop, N: 1}}); s != "round 3\n?\nstop\n?\n" || Text(nil) != "" {
		t.Error(s)
	}
}
