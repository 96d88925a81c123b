package engine

import (
	"slices"
	"strconv"
	"strings"
	"testing"

	"repartee/api"
	"repartee/parse"
)

const never = api.Never

// plain is a setup.
var plain = api.Setup{Live: 2, Ring: 4, Win: 8, Out: 3, Quantum: 100, Visits: 9}

// script is the script of some lines.
func script(t *testing.T, deadline string, lines ...string) api.Prog {
	p, spot, e := parse.Parse("script a " + deadline + " 9\n" + strings.Join(lines, "\n"))
	if e != api.OK {
		t.Fatal(lines, spot, e)
	}
	return p
}

// made is an engine.
func made(t *testing.T, s api.Setup, scripts ...api.Prog) *Engine {
	e, err := New(s, scripts...)
	if e == nil || err != api.OK {
		t.Fatal(err)
	}
	return e
}

// word is an event in short.
func word(x api.Event) string {
	n := strconv.Itoa
	switch x.Kind {
	case api.EvRound:
		return "round " + strconv.FormatInt(x.Tick, 10)
	case api.EvOpen:
		return "open " + n(x.Id) + " " + n(x.N)
	case api.EvRefuse:
		return "refuse " + n(x.Id) + " " + n(x.N) + " " + n(int(x.Err))
	case api.EvRead:
		return "read " + n(x.Id) + " " + x.Bytes
	case api.EvEof:
		return "eof " + n(x.Id)
	case api.EvWrite:
		return "write " + n(x.Id) + " " + x.Bytes
	case api.EvDrain:
		return "drain " + strconv.FormatInt(x.Tick, 10)
	case api.EvStep:
		s := x.Step
		return "step " + n(x.Id) + " " + strconv.FormatInt(s.Tick, 10) + " " + n(s.At) + " " + n(s.What) + " " + n(s.Arm) + " " + n(s.N) + " " + n(s.Status)
	}
	return "stop"
}

// whole tells whether of an event nothing is told that its kind doesn't have.
func whole(x api.Event) bool {
	y := api.Event{Kind: x.Kind}
	switch x.Kind {
	case api.EvRound, api.EvDrain:
		y.Tick = x.Tick
	case api.EvOpen:
		y.Id, y.N = x.Id, x.N
	case api.EvRefuse:
		y.Id, y.N, y.Err = x.Id, x.N, x.Err
	case api.EvRead, api.EvWrite:
		y.Id, y.N, y.Bytes = x.Id, len(x.Bytes), x.Bytes
	case api.EvEof:
		y.Id = x.Id
	case api.EvStep:
		y.Id, y.Step = x.Id, x.Step
	case api.EvStop:
	default:
		return false
	}
	return x == y
}

// tells checks what a round tells.
func tells(t *testing.T, e *Engine, r api.Round, want ...string) {
	t.Helper()
	var got []string
	for _, x := range e.Round(r) {
		got = append(got, word(x))
		if !whole(x) {
			t.Error("more than its kind has", x)
		}
	}
	if !slices.Equal(got, want) {
		t.Errorf("\n got %s\nwant %s", strings.Join(got, "; "), strings.Join(want, "; "))
	}
}

// P29.1: New.
func TestNew(t *testing.T) {
	done := script(t, "9")
	if e, err := New(api.Setup{}, make([]api.Prog, 99)...); e != nil || err != api.ErrArg {
		t.Error(err)
	}
	if e, err := New(plain, make([]api.Prog, 65)...); e != nil || err != api.ErrLong {
		t.Error(err)
	}
	e := made(t, plain, make([]api.Prog, 64)...)
	if e.Clock() != 0 || e.Rounds() != 0 || len(e.Live())+len(e.Ready())+len(e.Reads())+len(e.Writes())+len(e.Timers()) != 0 || e.Draining() || e.Stopped() {
		t.Error("New")
	}
	scripts := []api.Prog{done}
	e = made(t, plain, scripts...)
	scripts[0] = api.Prog{}
	tells(t, e, api.Round{Opens: []int{0}}, "round 0", "open 0 0", "step 0 0 0 9 0 0 1")
	made(t, plain)
}

// P29.2, 1: the clock.
func TestClock(t *testing.T) {
	e := made(t, plain)
	for _, x := range []struct{ ticks, clock int64 }{{0, 0}, {3, 3}, {-9, 3}, {never - 5, never - 2}, {0, never - 2}, {1, never - 1}, {1, never - 1}, {never, never - 1}} {
		tells(t, e, api.Round{Ticks: x.ticks}, "round "+strconv.FormatInt(x.clock, 10))
		if e.Clock() != x.clock {
			t.Error(e.Clock())
		}
	}
	if e.Rounds() != 8 {
		t.Error(e.Rounds())
	}
}

// P29.2, 2: who is opened, and who is refused.
func TestOpens(t *testing.T) {
	wait := script(t, "9", "expect never")
	e := made(t, plain, wait, api.Prog{}, script(t, "9"))
	tells(t, e, api.Round{Ticks: 3, Opens: []int{0, -1, 3, 1, 0, 0, 2}}, "round 3", "open 0 0", "refuse 1 -1 5", "refuse 2 3 5", "refuse 3 1 2", "open 4 0", "refuse 5 0 7", "refuse 6 2 7")
	if !slices.Equal(e.Live(), []int{0, 4}) {
		t.Error(e.Live())
	}
	for id, want := range map[int]bool{0: true, 1: false, 3: false, 4: true, 5: false, 7: false, -1: false} {
		if status, ok := e.Status(id); status != 0 || ok != want {
			t.Error(id, status, ok)
		}
	}
	if !slices.Equal(e.Timers(), []api.Entry{{At: 12, Id: 0}, {At: 12, Id: 4}}) {
		t.Error(e.Timers())
	}
	tells(t, e, api.Round{Drain: 99, Opens: []int{0}}, "round 3", "refuse 7 0 7", "drain 101")
	tells(t, e, api.Round{Opens: []int{0, 1, 9}}, "round 3", "refuse 8 0 8", "refuse 9 1 2", "refuse 10 9 5")
	// There are so many numbers, then none.
	e = made(t, plain, script(t, "9"))
	e.Round(api.Round{Opens: make([]int, 10)})
	for range 6 {
		e.Round(api.Round{Opens: slices.Repeat([]int{7}, 681)})
	}
	tells(t, e, api.Round{Opens: []int{0, 7}}, "round 0", "refuse -1 0 4", "refuse -1 7 5")
}

// P29.2, 2: the least free slot, and a wire of one's own.
func TestSlots(t *testing.T) {
	wait := script(t, "never", "expect never", "on \"x\" b", "label b")
	s := plain
	s.Live = 3
	e := made(t, s, wait, script(t, "5", "expect never"), script(t, "5", "expect never"))
	e.Round(api.Round{Opens: []int{0, 2, 1}, Offers: []api.Offer{{Id: 0, Bytes: "x"}}, Reports: []api.Report{{Id: 0, Read: true}}})
	tells(t, e, api.Round{Opens: []int{1}, Reports: []api.Report{{Id: 3, Read: true}}, Offers: []api.Offer{{Id: 0, Bytes: "y", Eof: true}}}, "round 0", "open 3 1")
	// Deadlines of one tick are in order of slots: 3 is where 0 was.
	if !slices.Equal(e.Timers(), []api.Entry{{At: 5, Id: 3}, {At: 5, Id: 1}, {At: 5, Id: 2}}) {
		t.Error(e.Timers())
	}
	tells(t, e, api.Round{Ticks: 5}, "round 5", "step 3 5 0 12 0 0 3", "step 1 5 0 12 0 0 3", "step 2 5 0 12 0 0 3")
	for id, want := range []int{1, 3, 3, 3} {
		if status, ok := e.Status(id); status != want || !ok {
			t.Error(id, status, ok)
		}
	}
}

// P29.2, 3 and 5: what peers send, what is read, and what is taken.
func TestReads(t *testing.T) {
	e := made(t, plain, script(t, "99", "expect 50", "on \"zz\" b", "label b"), script(t, "99", "send \"hello\"", "expect 50"))
	tells(t, e, api.Round{Opens: []int{0}, Offers: []api.Offer{{Id: 0, Bytes: "abc"}, {Id: 1, Bytes: "no"}, {Id: 0, Bytes: "def"}, {Id: -1}}, Reports: []api.Report{{Id: 0, Write: true, Accept: 9}, {Id: 1, Read: true}}}, "round 0", "open 0 0")
	if !slices.Equal(e.Reads(), []int{0}) || len(e.Writes()) != 0 {
		t.Error(e.Reads(), e.Writes())
	}
	tells(t, e, api.Round{Reports: []api.Report{{Id: 0, Read: true}, {Id: 0, Read: true}}}, "round 0", "read 0 abcd", "step 0 0 0 1 0 4 0")
	tells(t, e, api.Round{Reports: []api.Report{{Id: 0, Read: true}}}, "round 0", "read 0 ef", "step 0 0 0 1 0 2 0")
	tells(t, e, api.Round{Reports: []api.Report{{Id: 0, Read: true}}}, "round 0")
	tells(t, e, api.Round{Opens: []int{1}}, "round 0", "open 1 1", "step 1 0 0 5 0 3 0")
	if !slices.Equal(e.Writes(), []int{1}) || !slices.Equal(e.Reads(), []int{0, 1}) {
		t.Error(e.Reads(), e.Writes())
	}
	tells(t, e, api.Round{Reports: []api.Report{{Id: 1, Write: true}, {Id: 1, Write: true, Accept: -3}, {Id: 1, Accept: 3}}}, "round 0")
	tells(t, e, api.Round{Offers: []api.Offer{{Id: 1, Bytes: "uv", Eof: true}, {Id: 1, Bytes: "late"}}, Reports: []api.Report{{Id: 1, Read: true, Write: true, Accept: 2}, {Id: 1, Read: true}}}, "round 0", "read 1 uv", "eof 1", "write 1 he")
	tells(t, e, api.Round{Reports: []api.Report{{Id: 1, Write: true, Accept: 9}, {Id: 1, Write: true, Accept: 9}}}, "round 0", "write 1 l", "step 1 0 0 5 0 2 0")
	tells(t, e, api.Round{Reports: []api.Report{{Id: 1, Write: true, Accept: 9}}}, "round 0", "write 1 lo", "step 1 0 0 6 0 5 0", "step 1 0 1 4 0 2 2")
	// The end of file alone, also where the last bytes just fit; without room nothing is told.
	e = made(t, plain, script(t, "99", "pause 50"))
	tells(t, e, api.Round{Opens: []int{0, 0}, Offers: []api.Offer{{Id: 0, Bytes: "abcd", Eof: true}, {Id: 1, Bytes: "abcd"}}, Reports: []api.Report{{Id: 0, Read: true}, {Id: 1, Read: true}}}, "round 0", "open 0 0", "open 1 0", "read 0 abcd", "eof 0", "read 1 abcd")
	tells(t, e, api.Round{Offers: []api.Offer{{Id: 1, Eof: true}}, Reports: []api.Report{{Id: 0, Read: true}, {Id: 1, Read: true}}}, "round 0")
	if len(e.Reads()) != 0 {
		t.Error(e.Reads())
	}
	e = made(t, plain, script(t, "99", "pause 50"))
	tells(t, e, api.Round{Opens: []int{0}, Offers: []api.Offer{{Id: 0, Eof: true}}, Reports: []api.Report{{Id: 0, Read: true}, {Id: 0, Read: true}}}, "round 0", "open 0 0", "eof 0")
	// Room for one byte is room.
	e = made(t, plain, script(t, "99", "pause 50"))
	tells(t, e, api.Round{Opens: []int{0}, Offers: []api.Offer{{Id: 0, Bytes: "abc"}}, Reports: []api.Report{{Id: 0, Read: true}}}, "round 0", "open 0 0", "read 0 abc")
	if !slices.Equal(e.Reads(), []int{0}) {
		t.Error(e.Reads())
	}
	tells(t, e, api.Round{Offers: []api.Offer{{Id: 0, Bytes: "de"}}, Reports: []api.Report{{Id: 0, Read: true}}}, "round 0", "read 0 d")
	// Too much at once is let be.
	e = made(t, plain, script(t, "99", "pause 50"))
	tells(t, e, api.Round{Opens: []int{0}, Offers: []api.Offer{{Id: 0, Bytes: strings.Repeat("x", api.MaxOffer+1), Eof: true}, {Id: 0, Bytes: "y"}}, Reports: []api.Report{{Id: 0, Read: true}}}, "round 0", "open 0 0", "read 0 y")
}

// P29.2, 4: a drain, and an abort.
func TestDrains(t *testing.T) {
	wait := script(t, "20", "expect never", "on \"x\" b", "label b")
	e := made(t, plain, wait)
	e.Round(api.Round{Ticks: 5, Opens: []int{0, 0}})
	tells(t, e, api.Round{Ticks: 3, Drain: 4}, "round 8", "drain 11")
	if !e.Draining() || e.Stopped() || !slices.Equal(e.Timers(), []api.Entry{{At: 11, Id: 0}, {At: 11, Id: 1}}) {
		t.Error(e.Timers())
	}
	tells(t, e, api.Round{Drain: 1, Offers: []api.Offer{{Id: 1, Bytes: "x"}}, Reports: []api.Report{{Id: 1, Read: true}}}, "round 8", "read 1 x", "step 1 8 0 2 0 1 0", "step 1 8 1 9 0 0 1")
	tells(t, e, api.Round{Ticks: 3}, "round 11", "step 0 11 0 14 0 0 5", "stop")
	if !e.Stopped() || len(e.Live())+len(e.Ready())+len(e.Timers())+len(e.Reads())+len(e.Writes()) != 0 {
		t.Error("stopped")
	}
	tells(t, e, api.Round{Ticks: 1, Drain: 3, Abort: true, Opens: []int{0}, Offers: []api.Offer{{Id: 0}}, Reports: []api.Report{{Id: 0, Read: true, Write: true, Accept: 3}}}, "round 12", "refuse 2 0 8")
	// A grace of no ticks: who is live waits for his turn.
	s := plain
	s.Visits = 1
	e = made(t, s, wait)
	e.Round(api.Round{Opens: []int{0, 0}})
	tells(t, e, api.Round{Drain: 1}, "round 0", "drain 0", "step 0 0 0 14 0 0 5")
	tells(t, e, api.Round{}, "round 0", "step 1 0 0 14 0 0 5", "stop")
	// At once: all do a step in that round, also those who have no turn, and reports come too late.
	e = made(t, s, wait, script(t, "7", "expect never"))
	e.Round(api.Round{Opens: []int{0, 1}})
	tells(t, e, api.Round{Ticks: 7, Abort: true, Drain: 5, Reports: []api.Report{{Id: 0, Read: true}}, Offers: []api.Offer{{Id: 0, Bytes: "x"}}}, "round 7", "drain 7", "step 0 7 0 14 0 0 5", "step 1 7 0 12 0 0 3", "stop")
	if len(e.Ready())+len(e.Timers()) != 0 {
		t.Error("somebody waits behind an abort", e.Ready(), e.Timers())
	}
	// At once, while some wait for their turn.
	e = made(t, s, script(t, "9", "pause 0", "expect never"))
	e.Round(api.Round{Opens: []int{0, 0}})
	tells(t, e, api.Round{Abort: true}, "round 0", "drain 0", "step 0 0 1 14 0 0 5", "step 1 0 0 14 0 0 5", "stop")
	if len(e.Ready()) != 0 {
		t.Error("somebody waits behind an abort", e.Ready())
	}
	// At once behind a drain, and with nobody there.
	e = made(t, s, wait)
	e.Round(api.Round{Opens: []int{0}})
	tells(t, e, api.Round{Drain: 10, Ticks: 1}, "round 1", "drain 10")
	tells(t, e, api.Round{Abort: true, Ticks: 1}, "round 2", "drain 2", "step 0 2 0 14 0 0 5", "stop")
	tells(t, made(t, s, wait), api.Round{Abort: true}, "round 0", "drain 0", "stop")
	tells(t, made(t, s, wait), api.Round{Drain: 3}, "round 0", "drain 2", "stop")
	tells(t, made(t, s, wait), api.Round{Drain: -3}, "round 0")
	tells(t, made(t, s, wait), api.Round{Ticks: never, Drain: never}, "round 9223372036854775806", "drain 9223372036854775807", "stop")
	// Who is opened in the round of an abort is over, too.
	tells(t, made(t, s, wait), api.Round{Abort: true, Opens: []int{0, 0}}, "round 0", "open 0 0", "open 1 0", "drain 0", "step 0 0 0 14 0 0 5", "step 1 0 0 14 0 0 5", "stop")
}

// P29.2, 6: in which order one waits for his turn.
func TestWakes(t *testing.T) {
	s := api.Setup{Live: 5, Ring: 9, Win: 9, Out: 9, Quantum: 50, Visits: 9}
	pause := func(n string) api.Prog { return script(t, "never", "pause "+n) }
	e := made(t, s, pause("5"), pause("4"), script(t, "never", "expect 5", "on \"x\" b", "label b"), script(t, "never", "send \"x\""))
	tells(t, e, api.Round{Opens: []int{0, 1, 2, 2, 3}}, "round 0", "open 0 0", "open 1 1", "open 2 2", "open 3 2", "open 4 3", "step 4 0 0 5 0 1 0")
	// Behind their reports, in order, then those whose deadlines are due, by tick, then by slot.
	tells(t, e, api.Round{Ticks: 5, Offers: []api.Offer{{Id: 3, Bytes: "x"}}, Reports: []api.Report{{Id: 2, Read: true}, {Id: 4, Write: true, Accept: 1}, {Id: 3, Read: true}}},
		"round 5", "write 4 x", "read 3 x",
		"step 4 5 0 6 0 1 0", "step 4 5 1 9 0 0 1",
		"step 3 5 0 2 0 1 0", "step 3 5 1 9 0 0 1",
		"step 1 5 0 8 0 0 0", "step 1 5 1 9 0 0 1",
		"step 0 5 0 8 0 0 0", "step 0 5 1 9 0 0 1",
		"step 2 5 0 3 0 0 2")
	// Behind his opening, ahead of a drain, and all who are live when that is told.
	s.Visits = 2
	e = made(t, s, pause("9"), script(t, "never", "goto b", "label b"))
	e.Round(api.Round{Opens: []int{0, 0}})
	tells(t, e, api.Round{Opens: []int{1, 0}, Drain: 1}, "round 0", "open 2 1", "open 3 0", "drain 0", "step 2 0 0 14 0 0 5", "step 0 0 0 14 0 0 5")
	if !slices.Equal(e.Ready(), []int{1, 3}) || !slices.Equal(e.Live(), []int{1, 3}) {
		t.Error(e.Ready())
	}
	tells(t, e, api.Round{}, "round 0", "step 1 0 0 14 0 0 5", "step 3 0 0 14 0 0 5", "stop")
}

// P29.2, 7: turns, what one can pay, and how many there are in a round.
func TestTurns(t *testing.T) {
	s := api.Setup{Live: 2, Ring: 9, Win: 9, Out: 9, Quantum: 2, Visits: 2}
	jumps := script(t, "never", "goto b", "label b", "goto c", "label c", "goto d", "label d")
	e := made(t, s, jumps)
	tells(t, e, api.Round{Opens: []int{0, 0}}, "round 0", "open 0 0", "open 1 0", "step 0 0 0 7 0 0 0", "step 0 0 1 7 0 0 0", "step 1 0 0 7 0 0 0", "step 1 0 1 7 0 0 0")
	if !slices.Equal(e.Ready(), []int{0, 1}) {
		t.Error(e.Ready())
	}
	tells(t, e, api.Round{Opens: []int{0}}, "round 0", "refuse 2 0 7", "step 0 0 2 7 0 0 0", "step 0 0 3 9 0 0 1", "step 1 0 2 7 0 0 0", "step 1 0 3 9 0 0 1")
	// Who can't pay yet keeps what he has.
	s.Visits = 1
	e = made(t, s, script(t, "never", "send \"hello\"", "send \"y\""))
	tells(t, e, api.Round{Opens: []int{0}}, "round 0", "open 0 0")
	tells(t, e, api.Round{}, "round 0")
	tells(t, e, api.Round{}, "round 0", "step 0 0 0 5 0 5 0")
	// Who waits no more has nothing left.
	tells(t, e, api.Round{Reports: []api.Report{{Id: 0, Write: true, Accept: 5}}}, "round 0", "write 0 hello", "step 0 0 0 6 0 5 0")
	tells(t, e, api.Round{}, "round 0", "step 0 0 1 5 0 1 0")
	tells(t, e, api.Round{Reports: []api.Report{{Id: 0, Write: true, Accept: 5}}}, "round 0", "write 0 y", "step 0 0 1 6 0 1 0", "step 0 0 2 9 0 0 1")
	// One turn each, one behind the other; who is ready still waits behind the others.
	s.Quantum = 1
	e = made(t, s, jumps)
	tells(t, e, api.Round{Opens: []int{0, 0}}, "round 0", "open 0 0", "open 1 0", "step 0 0 0 7 0 0 0")
	if !slices.Equal(e.Ready(), []int{1, 0}) {
		t.Error(e.Ready())
	}
	tells(t, e, api.Round{}, "round 0", "step 1 0 0 7 0 0 0")
	tells(t, e, api.Round{}, "round 0", "step 0 0 1 7 0 0 0")
}

// P29.3: what is asked; a nil engine.
func TestAsked(t *testing.T) {
	e := made(t, plain, script(t, "9", "pause 3", "send \"x\"", "expect never"))
	e.Round(api.Round{Opens: []int{0, 0}})
	if !slices.Equal(e.Timers(), []api.Entry{{At: 3, Id: 0}, {At: 3, Id: 1}}) {
		t.Error(e.Timers())
	}
	l := e.Timers()
	l[0].Id = 7
	// A deadline that is due stays told as long as its dialogue had no turn.
	s := plain
	s.Visits = 1
	e = made(t, s, script(t, "9", "pause 3", "send \"x\"", "expect never"))
	e.Round(api.Round{Opens: []int{0, 0}})
	e.Round(api.Round{Ticks: 3})
	if !slices.Equal(e.Timers(), []api.Entry{{At: 3, Id: 1}, {At: 9, Id: 0}}) || !slices.Equal(e.Ready(), []int{1}) || !slices.Equal(e.Writes(), []int{0}) {
		t.Error(e.Timers(), e.Ready(), e.Writes())
	}
	var none *Engine
	status, ok := none.Status(0)
	if len(none.Round(api.Round{Opens: []int{0}})) != 0 || none.Clock() != 0 || none.Rounds() != 0 || len(none.Live())+len(none.Ready())+len(none.Reads())+len(none.Writes())+len(none.Timers()) != 0 || status != 0 || ok || none.Draining() || none.Stopped() {
		t.Error("nil")
	}
	zero := new(Engine)
	zero.Round(api.Round{Ticks: 3, Opens: []int{0}, Offers: []api.Offer{{}}, Reports: []api.Report{{Read: true, Write: true}}, Abort: true})
}
