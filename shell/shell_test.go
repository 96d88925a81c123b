package shell

import (
	"slices"
	"strings"
	"testing"

	"repartee/api"
	"repartee/lex"
	"repartee/quote"
)

// tells checks what a line tells.
func tells(t *testing.T, s *Shell, line string, want ...string) {
	t.Helper()
	if got := s.Do(line); !slices.Equal(got, want) {
		t.Errorf("%q:\n got %q\nwant %q", line, got, want)
	}
}

// fresh is the setup of a new shell.
var fresh = api.Setup{Live: 4, Ring: 64, Win: 128, Out: 32, Quantum: 64, Visits: 2}

// P39.1: New, Setup, Events, Run.
func TestNew(t *testing.T) {
	s := New()
	if s.Setup() != fresh || len(s.Events()) != 0 {
		t.Error(s.Setup())
	}
	got := Run("# all\nload \"script a 9 0\"\n\nstart\ndo \"tick 1\\nopen 0\"")
	if !slices.Equal(got, []string{"ok", "ok", "round 1", "open 0 0", "step 0 1 0 done 0 0 done", "ok"}) {
		t.Error(got)
	}
	if len(Run("")) != 0 || len(Run("#\n\n")) != 0 || !slices.Equal(Run("foo\nstart\n"), []string{"line 1, column 1: error 11", "ok"}) {
		t.Error("Run")
	}
	s.Do(`load "script a 9 0"`)
	s.Do("start")
	s.Do(`do "tick 1\nopen 0"`)
	l := s.Events()
	if len(l) != 3 || l[0].Kind != api.EvRound {
		t.Error(l)
	}
	l[0].Kind = 7
	if s.Events()[0].Kind != api.EvRound {
		t.Error("Events is not its own")
	}
	var none *Shell
	if len(none.Do("start")) != 0 || none.Setup() != (api.Setup{}) || len(none.Events()) != 0 {
		t.Error("nil")
	}
}

// P39.2: words that are wrong.
func TestWords(t *testing.T) {
	s := New()
	for line, want := range map[string]string{
		" start": "1 2", "start ": "7 3", "load \"a": "8 3", "load \"\\q\"": "8 2", strings.Repeat("x", 1201): "1201 4", "live  3": "6 2",
		"foo": "1 11", "\"start\"": "1 11", "Start": "1 11", "foo bar": "1 11", "live": "5 3", "load": "5 3", "do": "3 3", "live x": "6 2", "live 01": "6 2", "live -1": "6 2", "live \"3\"": "6 2", "live 0": "6 12", "live 1025": "6 12", "live never": "6 12", "live 0 0": "6 12", "live 3 3": "8 2", "load a": "6 2", "do a": "4 2", "do \"foo\" x": "10 2", "load \"\" \"\"": "9 2",
		"ring 0": "6 12", "ring 4097": "6 12", "win 4097": "5 12", "out 4097": "5 12", "quantum 1000001": "9 12", "visits 65": "8 12", "visits 0": "8 12", "start x": "7 2", "faults x": "8 2", "ends x": "6 2", "table \"\"": "7 2", "check 1": "7 2", "fair 1": "6 2", "late 1": "6 2", "live 9223372036854775807": "6 12",
	} {
		col, e, _ := strings.Cut(want, " ")
		tells(t, s, line, "line 1, column "+col+": error "+e)
	}
	if s.Setup() != fresh {
		t.Error(s.Setup())
	}
	tells(t, s, "")
	tells(t, s, "# foo")
}

// P39.2: what may come ahead of the start, and behind it.
func TestState(t *testing.T) {
	s := New()
	for _, line := range []string{`do "foo"`, "ends", "table", "check", "fair", "late"} {
		tells(t, s, line, "error 8")
	}
	for _, line := range []string{"live 1024", "ring 4096", "win 4096", "out 4096", "quantum 1000000", "visits 64"} {
		tells(t, s, line, "ok")
	}
	if s.Setup() != (api.Setup{Live: 1024, Ring: 4096, Win: 4096, Out: 4096, Quantum: 1000000, Visits: 64}) {
		t.Error(s.Setup())
	}
	for _, line := range []string{"live 1", "ring 2", "win 3", "out 4", "quantum 5", "visits 6"} {
		tells(t, s, line, "ok")
	}
	if s.Setup() != (api.Setup{Live: 1, Ring: 2, Win: 3, Out: 4, Quantum: 5, Visits: 6}) {
		t.Error(s.Setup())
	}
	tells(t, s, "start", "ok")
	for _, line := range []string{"live 3", "ring 3", "win 3", "out 3", "quantum 3", "visits 3", `load "x"`, "start"} {
		tells(t, s, line, "error 8")
	}
	tells(t, s, "start x", "line 1, column 7: error 2")
	if s.Setup() != (api.Setup{Live: 1, Ring: 2, Win: 3, Out: 4, Quantum: 5, Visits: 6}) {
		t.Error(s.Setup())
	}
	tells(t, s, "faults", "right 0")
	tells(t, s, "ends", "open")
	tells(t, s, "table", "all 0 0 never 0 0 0 0 0 run 0")
	tells(t, s, "check", "holds")
	tells(t, s, "fair", "fair 1 1 1")
	tells(t, s, "late", "late 0 0 0")
	tells(t, s, `do ""`, "ok")
}

// P39.2: load, faults, start.
func TestLoad(t *testing.T) {
	s := New()
	tells(t, s, `load "script a 9 0"`, "ok")
	tells(t, s, `load "goto b\nscript b x 0"`, "ok")
	tells(t, s, `load ""`, "ok")
	tells(t, s, `load "script a 7 0\nscript a 7 0"`, "ok")
	tells(t, s, "faults", "in 0: line 2, column 6: error 13", "in 1: line 3, column 10: error 2", "in 3: line 6, column 8: error 6", "right 1")
	long := "load " + quote.Quote(strings.Repeat("#", 999))
	n := len("script a 9 0\ngoto b\nscript b x 0\n\nscript a 7 0\nscript a 7 0\n")
	for range (api.MaxSource - n) / 1000 {
		tells(t, s, long, "ok")
	}
	tells(t, s, long, "error 4")
	left := (api.MaxSource - n) % 1000
	tells(t, s, "load "+quote.Quote(strings.Repeat("#", left)), "error 4")
	tells(t, s, "load "+quote.Quote(strings.Repeat("#", left-1)), "ok")
	tells(t, s, `load ""`, "error 4")
	tells(t, s, "faults", "in 0: line 2, column 6: error 13", "in 1: line 3, column 10: error 2", "in 3: line 6, column 8: error 6", "right 1")
	tells(t, s, "start", "ok")
	tells(t, s, "faults", "in 0: line 2, column 6: error 13", "in 1: line 3, column 10: error 2", "in 3: line 6, column 8: error 6", "right 1")
	tells(t, s, `do "tick 0\nopen 0\nopen 2\nopen 4"`, "round 0", "refuse 0 0 2", "open 1 2", "refuse 2 4 5", "step 1 0 0 done 0 0 done", "ok")
	many := New()
	tells(t, many, "load "+quote.Quote(strings.Repeat("script\n", 65)), "ok")
	tells(t, many, "faults", "error 4")
	tells(t, many, "start", "error 4")
	tells(t, many, "live 3", "ok")
}

// P39.2: do, ends, table, check, fair, late.
func TestDo(t *testing.T) {
	s := New()
	tells(t, s, `load "script a 99 9\nexpect 10\non \"ok\" b\nlabel b\nsend \"hello\"\nscript b never 0\nexpect never"`, "ok")
	tells(t, s, "start", "ok")
	tells(t, s, `do "tick 1\nfoo"`, "in do: line 2, column 1: error 11")
	tells(t, s, `do "open 0"`, "in do: line 1, column 1: error 8")
	tells(t, s, `do "tick 3\nopen 0\nopen 1\noffer 0 \"xok\""`, "round 3", "open 0 0", "open 1 1", "ok")
	tells(t, s, "fair", "fair 3 2 1")
	tells(t, s, "ends", "0 run", "1 run", "open")
	tells(t, s, `do "tick 5\nread 0\n\n# two\ntick 0\ntick 1\nwrite 0 9"`, "round 8", `read 0 "xok"`, "step 0 8 0 match 0 3 run", "step 0 8 1 load 0 5 run", "round 8", "round 9", `write 0 "hello"`, "step 0 9 1 sent 0 5 run", "step 0 9 2 done 0 0 done", "ok")
	tells(t, s, "fair", "fair 5 2 2")
	tells(t, s, "ends", "0 done", "1 run", "open")
	tells(t, s, "table", "0 0 3 4 0 1 3 5 done 9", "1 1 3 0 0 0 0 0 run never", "all 2 0 3 4 0 1 3 5 done never")
	tells(t, s, "check", "holds")
	tells(t, s, "late", "late 0 0 0")
	tells(t, s, `do "tick 1\ndrain 2"`, "round 10", "drain 12", "ok")
	tells(t, s, `do "tick 90"`, "round 100", "step 1 100 0 drained 0 0 drained", "stop", "ok")
	tells(t, s, "fair", "fair 90 2 2")
	tells(t, s, "ends", "0 done", "1 drained", "stopped")
	tells(t, s, "late", "late 0 0 0")
	if len(s.Events()) != 17 {
		t.Error(len(s.Events()))
	}
	// At most 200 rounds: 6 were done.
	tells(t, s, "do "+quote.Quote(strings.Repeat("tick 0\n", 120)), append(slices.Repeat([]string{"round 100"}, 120), "ok")...)
	tells(t, s, "do "+quote.Quote(strings.Repeat("tick 0\n", 75)), "error 4")
	tells(t, s, "do "+quote.Quote(strings.Repeat("tick 0\n", 75)+"foo"), "in do: line 76, column 1: error 11")
	tells(t, s, "do "+quote.Quote(strings.Repeat("tick 0\n", 74)), append(slices.Repeat([]string{"round 100"}, 74), "ok")...)
	tells(t, s, `do "tick 0"`, "error 4")
	tells(t, s, `do "# none"`, "ok")
}

// P39.2: what is told of one who is broken, and who are late, comes from below; here it is told by what is told of a shell that was tampered with.
func TestBroken(t *testing.T) {
	s := New()
	s.Do(`load "script a 99 9\nexpect 10\nscript b 9 0\nsend \"x\""`)
	s.Do("start")
	s.Do(`do "tick 1\nopen 0\nopen 1\nopen 0"`)
	s.events = append(s.events, api.Event{Kind: api.EvEof, Id: 2}, api.Event{Kind: api.EvEof, Id: 2})
	tells(t, s, "check", "broken 2")
	for n := range 60 {
		s.events = append(s.events, api.Event{Kind: api.EvRound, Tick: int64(20 + n)})
	}
	tells(t, s, "late", "late 2 1 0")
	s.events = append(s.events, api.Event{Kind: api.EvDrain, Tick: 3})
	tells(t, s, "late", "late 2 1 3")
}

// P39.3: what lines tell does not hang on later ones.
func TestLaterLines(t *testing.T) {
	lines := []string{`load "script a 9 0\npause 2"`, "faults", "foo", "start", `do "tick 1\nopen 0"`, "ends", "live 3", `do "tick 2"`, "table", "check", "late", "fair"}
	all := Run(strings.Join(lines, "\n"))
	for n := range lines {
		ahead := Run(strings.Join(lines[:n], "\n"))
		if !slices.Equal(ahead, all[:len(ahead)]) {
			t.Error(n, ahead)
		}
	}
	if l := lex.Lines(strings.Join(all, "\n")); len(l) != len(all) {
		t.Error("a line feed within a line")
	}
}
