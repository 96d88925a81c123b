package ledger

import (
	"slices"
	"testing"

	"repartee/api"
)

const never = api.Never

// short events.
func round(at int64) api.Event { return api.Event{Kind: api.EvRound, Tick: at} }
func open(id, n int) api.Event { return api.Event{Kind: api.EvOpen, Id: id, N: n} }
func step(id int, at int64, what, status int) api.Event {
	return api.Event{Kind: api.EvStep, Id: id, Step: api.Step{Tick: at, What: what, Status: status}}
}
func read(id int, b string) api.Event {
	return api.Event{Kind: api.EvRead, Id: id, N: len(b), Bytes: b}
}
func wrote(id int, b string) api.Event {
	return api.Event{Kind: api.EvWrite, Id: id, N: len(b), Bytes: b}
}

// some are events of three.
var some = []api.Event{
	round(3), open(0, 0), open(7, 2), read(0, "abc"), step(0, 3, api.WLook, 0), step(7, 3, api.WJump, 0), round(5), open(4, 1), read(0, "def"), wrote(0, "hello"),
	step(0, 5, api.WMatch, 0), step(0, 5, api.WSent, 0), step(7, 5, api.WTimeout, 0), step(7, 5, api.WEof, 0), step(7, 5, api.WLooped, 2), step(4, 6, api.WEof, 2), round(7), step(0, 7, api.WDone, 1),
}

// P38.1: Of and Rows.
func TestRows(t *testing.T) {
	want := []Row{
		{Id: 0, Script: 0, From: 3, Steps: 4, Looks: 1, Jumps: 1, Read: 6, Taken: 5, Status: api.SDone, End: 7},
		{Id: 4, Script: 1, From: 5, Steps: 1, Status: api.SFailed, End: 6},
		{Id: 7, Script: 2, From: 3, Steps: 4, Jumps: 3, Status: api.SFailed, End: 5},
	}
	if got := Rows(some); !slices.Equal(got, want) {
		t.Error(got)
	}
	for _, r := range want {
		if got, ok := Of(some, r.Id); got != r || !ok {
			t.Error(got, ok)
		}
	}
	if r, ok := Of(some, 1); r != (Row{}) || ok || len(Rows(nil)) != 0 {
		t.Error(r, ok)
	}
	if got, ok := Of([]api.Event{open(3, 9), step(3, 2, api.WLook, 0)}, 3); got != (Row{Id: 3, Script: 9, Steps: 1, Looks: 1, End: never}) || !ok {
		t.Error(got, ok)
	}
	// What counts as a jump.
	for what := range 16 {
		for _, status := range []int{0, 2} {
			r, _ := Of([]api.Event{open(0, 0), step(0, 1, what, status)}, 0)
			jump := status == 0 && (what == api.WMatch || what == api.WTimeout || what == api.WEof || what == api.WJump)
			if r.Jumps == 1 != jump || r.Looks == 1 != (what == api.WLook) || r.Jumps > 1 || r.Looks > 1 {
				t.Error(what, status, r)
			}
		}
	}
}

// P38.2: Total.
func TestTotal(t *testing.T) {
	if got := Total(some); got != (Row{Id: 3, From: 3, Steps: 9, Looks: 1, Jumps: 4, Read: 6, Taken: 5, Status: 0, End: 7}) {
		t.Error(got)
	}
	if got := Total(some[:10]); got != (Row{Id: 3, From: 3, Steps: 2, Looks: 1, Jumps: 1, Read: 6, Taken: 5, Status: 3, End: never}) {
		t.Error(got)
	}
	if got := Total([]api.Event{round(5), open(0, 0), open(1, 0), step(0, 6, api.WDone, 1), step(1, 9, api.WDone, 1)}); got != (Row{Id: 2, From: 5, Steps: 2, End: 9}) {
		t.Error("the greatest end", got)
	}
	if got := Total([]api.Event{round(-5), open(0, 0), step(0, -3, api.WFail, 2)}); got != (Row{Id: 1, From: -5, Steps: 1, End: -3}) {
		t.Error("as the row", got)
	}
	if got := Total(nil); got != (Row{From: never}) {
		t.Error(got)
	}
}

// P38.3: Line and Table.
func TestLine(t *testing.T) {
	if s := Table(some); s != "0 0 3 4 1 1 6 5 done 7\n4 1 5 1 0 0 0 0 failed 6\n7 2 3 4 0 3 0 0 failed 5\n" || Table(nil) != "" {
		t.Error(s)
	}
	if s := Line(Row{Id: -1, Script: -2, From: never, Steps: -3, Looks: -4, Jumps: -5, Read: -6, Taken: -7, Status: 6, End: never}); s != "-1 -2 never -3 -4 -5 -6 -7 ? never" {
		t.Error(s)
	}
	if s := Line(Row{Status: -1, From: -5}); s != "0 0 0 0 0 0 0 0 ? 0" {
		t.Error(s)
	}
	for status, want := range []string{"run", "done", "failed", "deadline", "overflow", "drained"} {
		if s := Line(Row{Status: status}); s != "0 0 0 0 0 0 0 0 "+want+" 0" {
			t.Error(s)
		}
	}
}
