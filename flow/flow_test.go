package flow

import (
	"slices"
	"strings"
	"testing"

	"repartee/api"
	"repartee/parse"
)

var plain = api.Setup{Live: 2, Ring: 4, Win: 6, Out: 3, Quantum: 3, Visits: 1}

// script is the script of some lines behind a head.
func script(t *testing.T, lines ...string) api.Prog {
	p, spot, e := parse.Parse("script a never 3\n" + strings.Join(lines, "\n"))
	if e != api.OK {
		t.Fatal(lines, spot, e)
	}
	return p
}

// bad are scripts that are not good.
var bad = []api.Prog{{}, {Name: "a", Deadline: 3, Jumps: 3, Ops: []api.Op{{Kind: api.OpGoto, To: 2}}}, {Name: "a", Deadline: 3, Jumps: -2}}

// P24.1: Next, Reach, Loops.
func TestNextReachLoops(t *testing.T) {
	p := script(t, "send \"x\"", "expect 3", "on \"a\" d", "on \"b\" b", "on \"c\" d", "timeout c", "label b", "goto d", "pause 3", "label c", "done", "fail", "label d")
	for at, want := range [][]int{{1}, {2, 4, 6}, {6}, {4}, nil, nil, nil, nil} {
		if l := Next(p, at); !slices.Equal(l, want) {
			t.Error(at, l)
		}
	}
	if len(Next(p, -1)) != 0 || len(Next(p, 1<<40)) != 0 || len(Next(p, -1<<63)) != 0 {
		t.Error("no such op")
	}
	if l := Reach(p); !slices.Equal(l, []int{0, 1, 2, 4, 6}) || Loops(p) {
		t.Error(l, Loops(p))
	}
	if l := Next(script(t, "expect 3"), 0); len(l) != 0 {
		t.Error("no branch", l)
	}
	if l := Next(script(t, "expect 3", "eof b", "label b"), 0); !slices.Equal(l, []int{1}) {
		t.Error("end of file", l)
	}
	if l := Reach(script(t, "goto b", "done", "label b", "send \"abcd\"")); !slices.Equal(l, []int{0, 2, 3}) {
		t.Error("example", l)
	}
	if l := Reach(script(t)); !slices.Equal(l, []int{0}) || Loops(script(t)) {
		t.Error("no op", l)
	}
	for _, x := range []struct {
		lines string
		want  bool
	}{{"label b\ngoto b", true}, {"send \"x\"\nlabel b\nexpect 3\neof c\nlabel c\npause 3\ngoto b", true}, {"label b\nexpect 3\non \"a\" b", true}, {"label b\nexpect 3\ntimeout b", true}, {"done\nlabel b\ngoto b", false}, {"goto c\nlabel b\ngoto b\nlabel c", false}, {"goto b\nlabel b\ngoto c\nlabel c\ndone", false}, {"goto b\nlabel b\ngoto c\nlabel c\ngoto b", true}} {
		if Loops(script(t, x.lines)) != x.want {
			t.Error(x)
		}
	}
	for _, p := range bad {
		if len(Next(p, 0)) != 0 || len(Reach(p)) != 0 || Loops(p) || Steps(plain, p) != 0 || Most(plain, p) != 0 {
			t.Error(p)
		}
	}
}

// P24.2: Steps and Most.
func TestStepsMost(t *testing.T) {
	p := script(t, "goto b", "done", "label b", "send \"abcd\"")
	if Steps(plain, p) != 6 || Most(plain, p) != 2*6*4 {
		t.Error("example", Steps(plain, p), Most(plain, p))
	}
	if Steps(plain, script(t)) != 1 || Steps(plain, script(t, "send \"abc\"")) != 3 || Steps(plain, script(t, "send \"abcdefg\"", "expect 3", "pause 3", "fail")) != 8 {
		t.Error("Steps")
	}
	if Steps(api.Setup{}, p) != 0 || Most(api.Setup{}, p) != 0 {
		t.Error("a setup that is not good")
	}
}
