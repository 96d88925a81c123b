package show

import (
	"math/rand"
	"testing"

	"repartee/api"
	"repartee/parse"
	"repartee/prog"
)

// full is a script of all that may stand in one.
var full = api.Prog{Name: "full", Deadline: api.Never, Jumps: 7, Ops: []api.Op{
	{Kind: api.OpSend, Text: "hello\n\"\xff"},
	{Kind: api.OpExpect, N: 10, Arms: []api.Arm{{Pattern: "ok\x00", To: 2}, {Pattern: "no*", To: 0}}, OnTimeout: 6, OnEof: 7},
	{Kind: api.OpPause, N: 4},
	{Kind: api.OpGoto, To: 2},
	{Kind: api.OpExpect, N: api.Never, OnTimeout: -1, OnEof: -1},
	{Kind: api.OpDone},
	{Kind: api.OpFail},
}}

// P15.1: Label and Op.
func TestLabelOp(t *testing.T) {
	for n, want := range map[int]string{0: "l0", 7: "l7", 200: "l200", -1: "l0", -1 << 63: "l0", 1<<63 - 1: "l9223372036854775807"} {
		if Label(n) != want {
			t.Error(n, Label(n))
		}
	}
	for at, want := range []string{"send \"hello\\n\\\"\\xff\"\n", "expect 10\non \"ok\\x00\" l2\non \"no*\" l0\ntimeout l6\neof l7\n", "pause 4\n", "goto l2\n", "expect never\n", "done\n", "fail\n"} {
		if s, e := Op(full, at); s != want || e != api.OK {
			t.Errorf("%d: %q %d", at, s, e)
		}
	}
	bad := prog.Copy(full)
	bad.Ops[6].N = 1
	for _, at := range []int{-1, 7, 1 << 40} {
		if s, e := Op(full, at); s != "" || e != api.ErrNone {
			t.Error(at, s, e)
		}
		if s, e := Op(bad, at); s != "" || e != api.ErrForm {
			t.Error(at, s, e)
		}
	}
	if s, e := Op(bad, 0); s != "" || e != api.ErrForm {
		t.Error(s, e)
	}
}

// P15.2: Prog.
func TestProg(t *testing.T) {
	const want = "script full never 7\nlabel l0\nsend \"hello\\n\\\"\\xff\"\nexpect 10\non \"ok\\x00\" l2\non \"no*\" l0\ntimeout l6\neof l7\nlabel l2\npause 4\ngoto l2\nexpect never\ndone\nlabel l6\nfail\nlabel l7\n"
	if s, e := Prog(full); s != want || e != api.OK {
		t.Errorf("%s %d", s, e)
	}
	x := api.Prog{Name: "x", Deadline: api.Never, Ops: []api.Op{{Kind: api.OpExpect, N: 5, Arms: []api.Arm{{Pattern: "a", To: 1}}, OnTimeout: -1, OnEof: -1}}}
	if s, e := Prog(x); s != "script x never 0\nexpect 5\non \"a\" l1\nlabel l1\n" || e != api.OK {
		t.Errorf("%s %d", s, e)
	}
	if s, e := Prog(api.Prog{Name: "x", Deadline: 3}); s != "script x 3 0\n" || e != api.OK {
		t.Errorf("%s %d", s, e)
	}
	for _, p := range []api.Prog{{}, {Name: "X", Deadline: 3}, {Name: "x", Deadline: 3, Ops: []api.Op{{Kind: api.OpGoto, To: 2}}}} {
		if s, e := Prog(p); s != "" || e != api.ErrForm {
			t.Error(s, e)
		}
	}
}

// some is a good script by chance.
func some(random *rand.Rand) api.Prog {
	p := api.Prog{Name: "p", Deadline: 1 + random.Int63n(api.MaxTicks), Jumps: random.Intn(api.MaxJumps + 1)}
	ops := random.Intn(9)
	to := func() int { return random.Intn(ops + 1) }
	for range ops {
		op := api.Op{Kind: 1 + random.Intn(6)}
		switch op.Kind {
		case api.OpSend:
			b := make([]byte, 1+random.Intn(256))
			random.Read(b)
			op.Text = string(b)
		case api.OpExpect:
			op.N, op.OnTimeout, op.OnEof = random.Int63n(api.MaxTicks), to()-1, to()-1
			for range random.Intn(9) {
				op.Arms = append(op.Arms, api.Arm{Pattern: "*[^a-f]" + string(rune('a'+random.Intn(26))), To: to()})
			}
		case api.OpGoto:
			op.To = to()
		case api.OpPause:
			op.N = random.Int63n(api.MaxTicks)
		}
		p.Ops = append(p.Ops, op)
	}
	return p
}

// P15.3: what is written of a good script is parsed as it.
func TestParsed(t *testing.T) {
	random := rand.New(rand.NewSource(15))
	l := []api.Prog{full}
	for range 300 {
		l = append(l, some(random))
	}
	for _, p := range l {
		s, e := Prog(p)
		if q, spot, f := parse.Parse(s); e != api.OK || f != api.OK || !prog.Same(p, q) {
			t.Fatal(s, e, spot, f)
		}
	}
}
