package log

import (
	"slices"
	"strings"
	"testing"

	"repartee/api"
)

const never = api.Never

// good are events, by their lines.
var good = map[string]api.Event{
	"round 0":                         {Kind: api.EvRound},
	"round never":                     {Kind: api.EvRound, Tick: never},
	"round 9223372036854775806":       {Kind: api.EvRound, Tick: never - 1},
	"drain 7":                         {Kind: api.EvDrain, Tick: 7},
	"open 0 0":                        {Kind: api.EvOpen},
	"open 4095 63":                    {Kind: api.EvOpen, Id: 4095, N: 63},
	"refuse -1 -7 1":                  {Kind: api.EvRefuse, Id: -1, N: -7, Err: api.ErrArg},
	"refuse 4095 64 13":               {Kind: api.EvRefuse, Id: 4095, N: 64, Err: api.ErrLabel},
	"refuse 0 -9223372036854775808 5": {Kind: api.EvRefuse, N: -1 << 63, Err: api.ErrNone},
	"refuse 0 9223372036854775807 5":  {Kind: api.EvRefuse, N: 1<<63 - 1, Err: api.ErrNone},
	`read 3 "ok"`:                     {Kind: api.EvRead, Id: 3, N: 2, Bytes: "ok"},
	`read 3 "a b\n\xff\" "`:           {Kind: api.EvRead, Id: 3, N: 7, Bytes: "a b\n\xff\" "},
	`write 4095 "x"`:                  {Kind: api.EvWrite, Id: 4095, N: 1, Bytes: "x"},
	`write 0 "` + strings.Repeat("x", 4096) + `"`: {Kind: api.EvWrite, N: 4096, Bytes: strings.Repeat("x", 4096)},
	"eof 9":                    {Kind: api.EvEof, Id: 9},
	"step 0 5 1 match 0 3 run": {Kind: api.EvStep, Step: api.Step{Tick: 5, At: 1, What: api.WMatch, N: 3}},
	"step 4095 never 200 drained 7 4096 drained": {Kind: api.EvStep, Id: 4095, Step: api.Step{Tick: never, At: 200, What: api.WDrained, Arm: 7, N: 4096, Status: api.SDrained}},
	"step 0 0 0 look 0 0 overflow":               {Kind: api.EvStep, Step: api.Step{What: api.WLook, Status: api.SOverflow}},
	"stop":                                       {Kind: api.EvStop},
}

// bad are events that are not good.
func bad() []api.Event {
	step := api.Step{What: 1}
	l := []api.Event{
		{}, {Kind: 10}, {Kind: -1}, {Kind: api.EvRound, Tick: -1}, {Kind: api.EvDrain, Tick: -1},
		{Kind: api.EvOpen, Id: -1}, {Kind: api.EvOpen, Id: 4096}, {Kind: api.EvOpen, N: -1}, {Kind: api.EvOpen, N: 64},
		{Kind: api.EvRefuse, Id: -2, Err: 1}, {Kind: api.EvRefuse, Id: 4096, Err: 1}, {Kind: api.EvRefuse}, {Kind: api.EvRefuse, Err: 14}, {Kind: api.EvRefuse, Err: -1},
		{Kind: api.EvRead, Bytes: "ab"}, {Kind: api.EvRead, N: 3, Bytes: "ab"}, {Kind: api.EvRead}, {Kind: api.EvRead, Id: -1, N: 1, Bytes: "a"}, {Kind: api.EvRead, Id: 4096, N: 1, Bytes: "a"}, {Kind: api.EvRead, N: 4097, Bytes: strings.Repeat("x", 4097)}, {Kind: api.EvWrite}, {Kind: api.EvWrite, N: 1, Bytes: "ab"}, {Kind: api.EvWrite, Id: 4096, N: 1, Bytes: "a"},
		{Kind: api.EvEof, Id: -1}, {Kind: api.EvEof, Id: 4096}, {Kind: api.EvStep, Id: -1, Step: step}, {Kind: api.EvStep, Id: 4096, Step: step},
		{Kind: api.EvStep}, {Kind: api.EvStep, Step: api.Step{What: 15}}, {Kind: api.EvStep, Step: api.Step{What: -1}}, {Kind: api.EvStep, Step: api.Step{What: 1, Tick: -1}}, {Kind: api.EvStep, Step: api.Step{What: 1, At: -1}}, {Kind: api.EvStep, Step: api.Step{What: 1, At: 201}}, {Kind: api.EvStep, Step: api.Step{What: 1, Arm: -1}}, {Kind: api.EvStep, Step: api.Step{What: 1, Arm: 8}}, {Kind: api.EvStep, Step: api.Step{What: 1, N: -1}}, {Kind: api.EvStep, Step: api.Step{What: 1, N: 4097}}, {Kind: api.EvStep, Step: api.Step{What: 1, Status: -1}}, {Kind: api.EvStep, Step: api.Step{What: 1, Status: 6}},
	}
	for _, x := range good {
		// A part that the kind doesn't have.
		for _, y := range []api.Event{{Id: 1}, {N: 1}, {Tick: 1}, {Bytes: "x"}, {Err: 1}, {Step: step}} {
			z := x
			switch {
			case y.Id != 0 && (x.Kind == api.EvRound || x.Kind == api.EvDrain || x.Kind == api.EvStop):
				z.Id = y.Id
			case y.N != 0 && x.Kind != api.EvOpen && x.Kind != api.EvRefuse:
				z.N += y.N
			case y.Tick != 0 && x.Kind != api.EvRound && x.Kind != api.EvDrain:
				z.Tick = y.Tick
			case y.Bytes != "":
				z.Bytes += y.Bytes
			case y.Err != 0 && x.Kind != api.EvRefuse:
				z.Err = y.Err
			case y.Step != (api.Step{}) && x.Kind != api.EvStep:
				z.Step = y.Step
			default:
				continue
			}
			l = append(l, z)
		}
	}
	return l
}

// P30.1: Good, What, Status.
func TestGood(t *testing.T) {
	for line, x := range good {
		if !Good(x) {
			t.Error(line)
		}
	}
	for _, x := range bad() {
		if Good(x) {
			t.Errorf("%+v", x)
		}
	}
	for n, want := range strings.Split(" look match timeout eof load sent jump woke done fail looped deadline overflow drained ", " ") {
		if What(n) != want {
			t.Error(n, What(n))
		}
	}
	for n, want := range strings.Split("run done failed deadline overflow drained ", " ") {
		if Status(n) != want {
			t.Error(n, Status(n))
		}
	}
	if What(-1) != "" || Status(-1) != "" || What(1<<62) != "" || Status(1<<62) != "" {
		t.Error("none")
	}
}

// P30.2: Print and Parse; P30.3: Parse of Print.
func TestPrintParse(t *testing.T) {
	for line, x := range good {
		if s, e := Print(x); s != line || e != api.OK {
			t.Error(s, e, line)
		}
		if y, e := Parse(line); y != x || e != api.OK {
			t.Error(line, y, e)
		}
		for _, s := range []string{line + " ", " " + line, line + "\n", line + " 0", line + "x", strings.Replace(line, " ", "  ", 1), strings.ToUpper(line), line[:len(line)-1], strings.Replace(line, " 0", " 00", 1), strings.Replace(line, " 0", " +0", 1), strings.Replace(line, " 0", " -0", 1), strings.Replace(line, "x", `\x78`, 1)} {
			y, e := Parse(s)
			if p, _ := Print(y); e == api.OK && p != s || e != api.OK && (y != (api.Event{}) || e != api.ErrForm) {
				t.Errorf("%q: %v %d", s, y, e)
			}
		}
	}
	for _, x := range bad() {
		if s, e := Print(x); s != "" || e != api.ErrForm {
			t.Error(x, s, e)
		}
	}
	for _, s := range []string{"", " ", "round", "round ", "round -1", "round 01", "round 9223372036854775807", "round x", "drain", "open", "open 0", "open 0 ", "open 0 64", "open 4096 0", "open -1 0", "open x 0", "open 0 x", "open 0 0 0", "refuse 0 0", "refuse 0 0 0", "refuse 0 0 14", "refuse -2 0 1", "refuse 0 9223372036854775808 1", "refuse 0 0 x", "read 0", "read 0 ", `read 0 ""`, `read 0 "a`, `read 0 a`, `read "a"`, `read 0 "a" `, `read 0 "\x61"`, `read 4096 "a"`, `write 0 ""`, `write 00 "a"`, "eof", "eof ", "eof x", "eof 4096", "eof 0 0", "step 0 5 1 match 0 3", "step 0 5 1 match 0 3 ", "step 0 5 1  0 3 run", "step 0 5 1 Match 0 3 run", "step 0 5 1 2 0 3 run", "step 0 5 201 match 0 3 run", "step 0 5 1 match 8 3 run", "step 0 5 1 match 0 4097 run", "step 0 5 1 match 0 3 running", "step 0 5 1 match 0 3 0", "stop ", "stop 0", "Stop", "foo", "0"} {
		if x, e := Parse(s); x != (api.Event{}) || e != api.ErrForm {
			t.Errorf("%q: %v %d", s, x, e)
		}
	}
}

// P30.2: Write and Read; P30.3: Read of Write.
func TestWriteRead(t *testing.T) {
	var l []api.Event
	want := ""
	for line, x := range good {
		l = append(l, x)
		want += line + "\n"
	}
	s, e := Write(l)
	if s != want || e != api.OK {
		t.Error(s, e)
	}
	for _, text := range []string{want, want[:len(want)-1]} {
		if got, n, e := Read(text); !slices.Equal(got, l) || n != 0 || e != api.OK {
			t.Error(got, n, e)
		}
	}
	if s, e := Write(append(l, api.Event{})); s != "" || e != api.ErrForm {
		t.Error(s, e)
	}
	if s, e := Write(nil); s != "" || e != api.OK {
		t.Error(s, e)
	}
	for text, line := range map[string]int{"": 0, "stop": 0, "\n": 1, "stop\n\n": 2, "stop\nstop\nfoo\nstop": 3, "stop\n ": 2, "#": 1, "stop\nstop": 0} {
		l, n, e := Read(text)
		if n != line || (e == api.OK) != (line == 0) || line > 0 && (len(l) != 0 || e != api.ErrForm) {
			t.Errorf("%q: %v %d %d", text, l, n, e)
		}
	}
}
