package prompt

import (
	"slices"
	"strings"
	"testing"

	"repartee/api"
	"repartee/parse"
)

// script is the script of some lines.
func script(t *testing.T, lines ...string) api.Prog {
	p, spot, e := parse.Parse("script a never 99\n" + strings.Join(lines, "\n"))
	if e != api.OK {
		t.Fatal(lines, spot, e)
	}
	return p
}

// short events.
var round = api.Event{Kind: api.EvRound}

func open(id, n int) api.Event { return api.Event{Kind: api.EvOpen, Id: id, N: n} }
func step(id, at, what, n int) api.Event {
	return api.Event{Kind: api.EvStep, Id: id, Step: api.Step{At: at, What: what, N: n}}
}
func came(id int, b string) api.Event {
	return api.Event{Kind: api.EvRead, Id: id, N: len(b), Bytes: b}
}

// P41.1: Of.
func TestOf(t *testing.T) {
	scripts := []api.Prog{script(t, "label t", "expect 9", "on \"a\" t", "on \"b\" u", "label u", "pause 3", "goto t"), {}}
	match := func(id, n int) api.Event { return step(id, 0, api.WMatch, n) }
	for i, x := range []struct {
		l    []api.Event
		want []Lag
	}{
		{nil, nil}, {[]api.Event{round, open(0, 0), round, round, round, came(0, "ok"), round, match(0, 2)}, []Lag{{Gone: 2, Read: 3, Match: 4}}},
		// Ahead of any round all is round 0; nothing read, or too little, or too late.
		{[]api.Event{came(0, "ahead"), open(0, 0), match(0, 2), came(0, "ok"), match(0, 1), match(0, -9)}, []Lag{{Gone: 2, Read: -1}, {Step: 1, Gone: 3, Read: -1}, {Step: 2, Gone: 3, Read: -1}}},
		{[]api.Event{round, open(0, 0), round, came(0, "a"), round, came(0, "bcd"), round, match(0, 1), match(0, 2), match(0, 1), round, match(0, 1)}, []Lag{{Gone: 1, Read: 1, Match: 3}, {Step: 1, Gone: 3, Read: 2, From: 3, Match: 3}, {Step: 2, Gone: 4, Read: 2, From: 3, Match: 3}, {Step: 3, Gone: 5, Read: -1, From: 3, Match: 4}}},
		{[]api.Event{round, round, open(0, 0), round, match(0, 0), round, match(0, -1)}, []Lag{{From: 1, Match: 2}, {Step: 1, From: 2, Match: 3}}},
		{[]api.Event{open(0, 0), came(0, "abc"), match(0, 1<<62), match(0, 1<<62)}, []Lag{{Gone: 1000000000, Read: -1}, {Step: 1, Gone: 1000000000, Read: -1}}},
		// From: the last event by which one came to an op; looks and ends are none.
		{[]api.Event{round, open(0, 0), round, {Kind: api.EvStep, Step: api.Step{What: api.WMatch, Arm: 1}}, round, step(0, 1, api.WWoke, 0), round, step(0, 2, api.WJump, 0), round, step(0, 0, api.WLook, 0), round, {Kind: api.EvStep, Step: api.Step{What: api.WMatch, Arm: 5}}, round, {Kind: api.EvStep, Step: api.Step{What: api.WMatch, Status: 2}}}, []Lag{{Match: 1}, {Step: 4, From: 3, Match: 5}, {Step: 5, From: 3, Match: 6}}},
		// Whose script there is, and is good; by Ids rising; what others do counts for nothing.
		{[]api.Event{round, open(5, 0), open(2, 0), open(3, 1), open(4, 2), round, came(5, "a"), came(3, "a"), match(3, 1), match(4, 1), match(7, 1), match(5, 1), round, came(2, "b"), match(2, 1), open(2, 1)}, []Lag{{Id: 2, Gone: 1, Read: 2, Match: 2}, {Id: 5, Gone: 1, Read: 1, Match: 1}}},
	} {
		if got := Of(scripts, x.l); !slices.Equal(got, x.want) {
			t.Errorf("%d:\n got %+v\nwant %+v", i, got, x.want)
		}
	}
}

// P41.2: Rounds, Late, Worst.
func TestRoundsLateWorst(t *testing.T) {
	for i, x := range []struct {
		lag  Lag
		want int
	}{{Lag{Read: 3, From: 1, Match: 4}, 1}, {Lag{Read: 1, From: 3, Match: 7}, 4}, {Lag{Read: 3, Match: 3}, 0}, {Lag{Read: 4, Match: 3}, 0}, {Lag{Read: -1, Match: 9}, 0}, {Lag{From: -1, Match: 9}, 0}, {Lag{Id: -1, Match: 9}, 0}, {Lag{Step: -1, Match: 9}, 0}, {Lag{Gone: -1, Match: 9}, 0}, {Lag{Read: -1, From: -2, Match: -1}, 0}, {Lag{Id: 7, Step: 8, Gone: 9, Match: 1<<63 - 1}, 1<<63 - 1}} {
		if got := Rounds(x.lag); got != x.want {
			t.Error(i, got)
		}
	}
	// Wait of this setup is 4.
	s := api.Setup{Live: 2, Ring: 4, Win: 3, Out: 3, Quantum: 2, Visits: 1}
	scripts := []api.Prog{script(t, "expect 9", "on \"a\" t", "label t")}
	of := func(n int) []api.Event {
		l := []api.Event{round, open(0, 0), open(1, 0), came(0, "a"), came(1, "a"), step(1, 0, api.WMatch, 1)}
		for range n {
			l = append(l, round)
		}
		return append(l, step(0, 0, api.WMatch, 1))
	}
	for n, want := range map[int][]Lag{0: nil, 4: nil, 5: {{Gone: 1, Match: 5}}, 9: {{Gone: 1, Match: 9}}} {
		if got := Late(s, scripts, of(n)); !slices.Equal(got, want) || Worst(scripts, of(n)) != n {
			t.Error(n, got, Worst(scripts, of(n)))
		}
	}
	if len(Late(api.Setup{}, scripts, of(99))) != 0 || Worst(scripts, nil) != 0 || Worst(nil, of(9)) != 0 {
		t.Error("none")
	}
}
