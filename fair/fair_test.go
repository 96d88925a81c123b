package fair

import (
	"slices"
	"strings"
	"testing"

	"repartee/api"
	"repartee/engine"
	"repartee/parse"
)

const never = api.Never

// plain is a setup.
var plain = api.Setup{Live: 2, Ring: 4, Win: 8, Out: 3, Quantum: 100, Visits: 9}

// script is the script of some lines.
func script(t *testing.T, lines ...string) api.Prog {
	p, spot, e := parse.Parse("script a never 9\n" + strings.Join(lines, "\n"))
	if e != api.OK {
		t.Fatal(lines, spot, e)
	}
	return p
}

// round is an event of a round.
func round(at int64) api.Event { return api.Event{Kind: api.EvRound, Tick: at} }

// P34.1: Ticks.
func TestTicks(t *testing.T) {
	for _, x := range []struct {
		l    []api.Event
		want int64
	}{
		{nil, 1}, {[]api.Event{round(0)}, 1}, {[]api.Event{round(7), round(9)}, 7}, {[]api.Event{round(2), {Kind: api.EvDrain, Tick: 90}, {Kind: api.EvStep, Step: api.Step{Tick: 50}}, round(9), round(10)}, 7},
		{[]api.Event{round(9), round(3), round(5)}, 9}, {[]api.Event{round(9), round(3), round(13)}, 10}, {[]api.Event{round(4), round(never)}, never - 4}, {[]api.Event{round(never), round(never)}, never}, {[]api.Event{round(-7), round(3)}, 3}, {[]api.Event{round(0), round(0)}, 1},
	} {
		if got := Ticks(x.l); got != x.want {
			t.Error(x.l, got)
		}
	}
}

// P34.2: Of, by rounds of each kind.
func TestOf(t *testing.T) {
	pause, send := script(t, "pause 1000"), script(t, "send \"hello\"", "pause 1000")
	open := api.Round{Ticks: 1, Opens: []int{0}}
	reads := func(id int, b string) api.Round {
		return api.Round{Offers: []api.Offer{{Id: id, Bytes: b}}}
	}
	none, poll := api.Round{}, api.Round{Reports: []api.Report{{Read: true}}}
	take := func(n int) api.Round { return api.Round{Reports: []api.Report{{Write: true, Accept: n}}} }
	for i, x := range []struct {
		p    api.Prog
		l    []api.Round
		want Fair
	}{
		{pause, nil, Fair{1, 1, 1}},
		{pause, []api.Round{open, none, none}, Fair{1, 1, 1}},
		// Bytes that wait on a wire, and are read.
		{pause, []api.Round{open, reads(0, "ab"), none, poll, none}, Fair{1, 3, 1}},
		{pause, []api.Round{open, reads(0, "ab"), poll, reads(0, "c")}, Fair{1, 2, 1}},
		{pause, []api.Round{{Opens: []int{0}, Offers: []api.Offer{{Bytes: "a"}}}, none, poll}, Fair{1, 3, 1}},
		{pause, []api.Round{{Opens: []int{0}, Offers: []api.Offer{{Bytes: "a"}}, Reports: []api.Report{{Read: true}}}, none}, Fair{1, 1, 1}},
		// Without room there is nothing to read.
		{pause, []api.Round{open, {Offers: []api.Offer{{Bytes: "abcdef"}}, Reports: []api.Report{{Read: true}}}, none, none, none}, Fair{1, 1, 1}},
		// An end of file, alone or behind bytes, told or not.
		{pause, []api.Round{open, {Offers: []api.Offer{{Eof: true}}}, none, poll, none, none}, Fair{1, 3, 1}},
		{pause, []api.Round{open, {Offers: []api.Offer{{Bytes: "a", Eof: true}, {Bytes: "lost"}}, Reports: []api.Report{{Read: true}}}, none, none}, Fair{1, 1, 1}},
		{pause, []api.Round{open, {Offers: []api.Offer{{Bytes: strings.Repeat("x", api.MaxOffer+1)}}}, none, none}, Fair{1, 1, 1}},
		// Something to be written as the round began, of which something is taken, or not.
		{send, []api.Round{open, none, none, take(1)}, Fair{1, 1, 3}},
		{send, []api.Round{open, take(1), take(0), take(1), take(1)}, Fair{1, 1, 2}},
		{send, []api.Round{open, take(3), take(2), none, none}, Fair{1, 1, 1}},
		{send, []api.Round{open, none, none, none}, Fair{1, 1, 4}},
		// Who is there no more counts no more; nor does a round that ends all.
		{pause, []api.Round{open, reads(0, "a"), {Abort: true}, none, none}, Fair{1, 2, 1}},
		{send, []api.Round{open, none, {Abort: true}, none, none}, Fair{1, 1, 2}},
		{send, []api.Round{open, {Drain: 1}, none, none}, Fair{1, 1, 2}},
		{pause, []api.Round{reads(0, "a"), {Ticks: 9, Opens: []int{0}}, none}, Fair{9, 1, 1}},
		// In whatever order they are read and written.
		{pause, []api.Round{{Opens: []int{0, 0}}, {Offers: []api.Offer{{Id: 1, Bytes: "b"}, {Id: 0, Bytes: "a"}}, Reports: []api.Report{{Id: 1, Read: true}, {Id: 0, Read: true}}}, none}, Fair{1, 1, 1}},
		{send, []api.Round{{Opens: []int{0, 0}}, {Reports: []api.Report{{Id: 1, Write: true, Accept: 3}, {Id: 0, Write: true, Accept: 3}}}, none}, Fair{1, 1, 2}},
		// Each by itself.
		{pause, []api.Round{{Opens: []int{0, 0}}, reads(0, "a"), reads(1, "b"), poll, poll}, Fair{1, 4, 1}},
	} {
		got, told, e := Of(plain, []api.Prog{x.p}, x.l...)
		if got != x.want || e != api.OK {
			t.Error(i, got, e)
		}
		m, _ := engine.New(plain, x.p)
		var want []api.Event
		for _, r := range x.l {
			want = append(want, m.Round(r)...)
		}
		if !slices.Equal(told, want) {
			t.Error(i, "told otherwise")
		}
	}
	if x, l, e := Of(api.Setup{}, nil, none); x != (Fair{}) || len(l) != 0 || e != api.ErrArg {
		t.Error(x, l, e)
	}
	if x, l, e := Of(plain, make([]api.Prog, 65), none); x != (Fair{}) || len(l) != 0 || e != api.ErrLong {
		t.Error(x, l, e)
	}
}

// P34.3: Worse.
func TestWorse(t *testing.T) {
	if Worse(Fair{1, 5, 3}, Fair{2, 4, 3}) != (Fair{2, 5, 3}) || Worse(Fair{}, Fair{1, 1, 1}) != (Fair{1, 1, 1}) {
		t.Error("Worse")
	}
}
