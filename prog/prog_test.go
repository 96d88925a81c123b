package prog

import (
	"slices"
	"strings"
	"testing"

	"repartee/api"
)

// of is a script of some ops.
func of(ops ...api.Op) api.Prog {
	return api.Prog{Name: "a", Deadline: 9, Jumps: 3, Ops: ops}
}

var (
	send   = api.Op{Kind: api.OpSend, Text: "a"}
	expect = api.Op{Kind: api.OpExpect, N: 5, Arms: []api.Arm{{Pattern: "ok", To: 0}}, OnTimeout: -1, OnEof: 1}
	jump   = api.Op{Kind: api.OpGoto}
	pause  = api.Op{Kind: api.OpPause, N: 3}
	done   = api.Op{Kind: api.OpDone}
	fail   = api.Op{Kind: api.OpFail}
)

// but is a script, changed.
func but(p api.Prog, change func(p *api.Prog)) api.Prog {
	p = Copy(p)
	change(&p)
	return p
}

// with is an op, changed.
func with(op api.Op, change func(op *api.Op)) api.Op {
	op.Arms = slices.Clone(op.Arms)
	change(&op)
	return op
}

// armed is an op that expects with these arms.
func armed(l ...api.Arm) api.Op {
	return api.Op{Kind: api.OpExpect, Arms: l}
}

// P13.1: Wrong and Good, of the script itself.
func TestWrongHead(t *testing.T) {
	for i, x := range []struct {
		change func(p *api.Prog)
		e      api.Errno
	}{
		{func(p *api.Prog) {}, api.OK},
		{func(p *api.Prog) { p.Ops = nil }, api.OK},
		{func(p *api.Prog) { p.Name = "" }, api.ErrName},
		{func(p *api.Prog) { p.Name = "9"; p.Deadline = 0 }, api.ErrName},
		{func(p *api.Prog) { p.Name = strings.Repeat("a", 17) }, api.ErrName},
		{func(p *api.Prog) { p.Deadline = 1 }, api.OK},
		{func(p *api.Prog) { p.Deadline = 0 }, api.ErrRange},
		{func(p *api.Prog) { p.Deadline = -1 }, api.ErrRange},
		{func(p *api.Prog) { p.Deadline = api.MaxTicks }, api.OK},
		{func(p *api.Prog) { p.Deadline = api.MaxTicks + 1 }, api.ErrRange},
		{func(p *api.Prog) { p.Deadline = api.Never }, api.OK},
		{func(p *api.Prog) { p.Deadline = api.Never - 1 }, api.ErrRange},
		{func(p *api.Prog) { p.Jumps = 0 }, api.OK},
		{func(p *api.Prog) { p.Jumps = -1 }, api.ErrRange},
		{func(p *api.Prog) { p.Jumps = api.MaxJumps }, api.OK},
		{func(p *api.Prog) { p.Jumps = api.MaxJumps + 1; p.Ops = make([]api.Op, 201) }, api.ErrRange},
		{func(p *api.Prog) { p.Ops = make([]api.Op, 201) }, api.ErrLong},
		{func(p *api.Prog) { p.Ops = slices.Repeat([]api.Op{done}, 200) }, api.OK},
	} {
		at, e := Wrong(but(of(send), x.change))
		want := -1
		if x.e == api.OK {
			want = 0
		}
		if at != want || e != x.e || Good(but(of(send), x.change)) != (x.e == api.OK) {
			t.Error(i, at, e)
		}
	}
}

// P13.1: Wrong, of ops.
func TestWrongOps(t *testing.T) {
	for i, x := range []struct {
		op api.Op
		e  api.Errno
	}{
		{send, api.OK}, {expect, api.OK}, {jump, api.OK}, {pause, api.OK}, {done, api.OK}, {fail, api.OK},
		{api.Op{}, api.ErrWord}, {api.Op{Kind: 7}, api.ErrWord}, {api.Op{Kind: -1, Text: "a"}, api.ErrWord},
		{with(send, func(op *api.Op) { op.Text = "" }), api.ErrEmpty},
		{with(send, func(op *api.Op) { op.Text = strings.Repeat("a", 256) }), api.OK},
		{with(send, func(op *api.Op) { op.Text = strings.Repeat("a", 257) }), api.ErrLong},
		{with(send, func(op *api.Op) { op.Text = ""; op.N = 1 }), api.ErrForm},
		{with(send, func(op *api.Op) { op.To = 1 }), api.ErrForm},
		{with(send, func(op *api.Op) { op.Arms = []api.Arm{{}} }), api.ErrForm},
		{with(send, func(op *api.Op) { op.Arms = []api.Arm{} }), api.OK},
		{with(send, func(op *api.Op) { op.OnTimeout = -1 }), api.ErrForm},
		{with(send, func(op *api.Op) { op.OnEof = -1 }), api.ErrForm},
		{with(expect, func(op *api.Op) { op.Text = "a" }), api.ErrForm},
		{with(expect, func(op *api.Op) { op.To = 1; op.N = -1 }), api.ErrForm},
		{with(jump, func(op *api.Op) { op.N = 1; op.To = 99 }), api.ErrForm},
		{with(jump, func(op *api.Op) { op.Text = "x" }), api.ErrForm},
		{with(pause, func(op *api.Op) { op.To = 1 }), api.ErrForm},
		{with(pause, func(op *api.Op) { op.OnEof = 1 }), api.ErrForm},
		{with(done, func(op *api.Op) { op.N = 1 }), api.ErrForm},
		{with(done, func(op *api.Op) { op.Text = "x" }), api.ErrForm},
		{with(fail, func(op *api.Op) { op.OnTimeout = 1 }), api.ErrForm},
		{with(fail, func(op *api.Op) { op.Arms = []api.Arm{{}} }), api.ErrForm},
		{with(expect, func(op *api.Op) { op.N = 0; op.Arms = nil }), api.OK},
		{with(expect, func(op *api.Op) { op.N = -1; op.Arms[0].Pattern = "]" }), api.ErrRange},
		{with(expect, func(op *api.Op) { op.N = api.MaxTicks }), api.OK},
		{with(expect, func(op *api.Op) { op.N = api.MaxTicks + 1 }), api.ErrRange},
		{with(expect, func(op *api.Op) { op.N = api.Never }), api.OK},
		{armed(slices.Repeat([]api.Arm{{Pattern: "a"}}, 8)...), api.OK},
		{armed(slices.Repeat([]api.Arm{{Pattern: "]"}}, 9)...), api.ErrLong},
		{armed(api.Arm{Pattern: strings.Repeat("%a", 32)}), api.OK},
		{armed(api.Arm{Pattern: strings.Repeat("%a", 32) + "]", To: -1}), api.ErrLong},
		{armed(api.Arm{Pattern: strings.Repeat("a", 61)}), api.ErrLong},
		{armed(api.Arm{Pattern: "]", To: -1}), api.ErrForm},
		{armed(api.Arm{Pattern: "a%"}), api.ErrEnd},
		{armed(api.Arm{Pattern: "[b-a]"}), api.ErrRange},
		{armed(api.Arm{Pattern: "*", To: 9}), api.ErrEmpty},
		{armed(api.Arm{Pattern: "a", To: -1}, api.Arm{Pattern: "]"}), api.ErrLabel},
		{armed(api.Arm{Pattern: "a", To: 2}), api.OK},
		{armed(api.Arm{Pattern: "a", To: 3}), api.ErrLabel},
		{with(expect, func(op *api.Op) { op.OnTimeout = 2; op.OnEof = 2 }), api.OK},
		{with(expect, func(op *api.Op) { op.OnTimeout = 3 }), api.ErrLabel},
		{with(expect, func(op *api.Op) { op.OnTimeout = -2 }), api.ErrLabel},
		{with(expect, func(op *api.Op) { op.OnEof = 3 }), api.ErrLabel},
		{with(expect, func(op *api.Op) { op.OnEof = -2 }), api.ErrLabel},
		{with(jump, func(op *api.Op) { op.To = 2 }), api.OK},
		{with(jump, func(op *api.Op) { op.To = 3 }), api.ErrLabel},
		{with(jump, func(op *api.Op) { op.To = -1 }), api.ErrLabel},
		{with(pause, func(op *api.Op) { op.N = 0 }), api.OK},
		{with(pause, func(op *api.Op) { op.N = api.MaxTicks }), api.OK},
		{with(pause, func(op *api.Op) { op.N = api.MaxTicks + 1 }), api.ErrRange},
		{with(pause, func(op *api.Op) { op.N = api.Never }), api.ErrRange},
		{with(pause, func(op *api.Op) { op.N = -1 }), api.ErrRange},
	} {
		at, e := Wrong(of(done, x.op))
		want := 1
		if x.e == api.OK {
			want = 0
		}
		if at != want || e != x.e {
			t.Error(i, x.op, at, e)
		}
		// P13.3: what is wrong hangs on nothing behind it.
		if at, e := Wrong(of(x.op, api.Op{})); x.e != api.OK && (at != 0 || e != x.e) {
			t.Error(i, "behind it", at, e)
		}
	}
	if at, e := Wrong(of(send, api.Op{Kind: api.OpGoto, To: 3})); at != 1 || e != api.ErrLabel {
		t.Error("example", at, e)
	}
}

// P13.2: Same and Copy.
func TestSameCopy(t *testing.T) {
	p := of(send, expect, jump, pause, done, fail)
	if !Same(p, Copy(p)) || !Same(api.Prog{}, api.Prog{Ops: []api.Op{}}) || !Same(of(api.Op{Arms: []api.Arm{}}), of(api.Op{})) {
		t.Error("Same")
	}
	for i, change := range []func(p *api.Prog){
		func(p *api.Prog) { p.Name = "b" }, func(p *api.Prog) { p.Deadline++ }, func(p *api.Prog) { p.Jumps++ }, func(p *api.Prog) { p.Ops = p.Ops[:5] }, func(p *api.Prog) { p.Ops[0].Kind = 9 }, func(p *api.Prog) { p.Ops[0].Text = "b" }, func(p *api.Prog) { p.Ops[1].N++ }, func(p *api.Prog) { p.Ops[2].To = 1 }, func(p *api.Prog) { p.Ops[1].Arms = nil }, func(p *api.Prog) { p.Ops[1].Arms[0].To = 7 }, func(p *api.Prog) { p.Ops[1].Arms[0].Pattern = "no" }, func(p *api.Prog) { p.Ops[5].OnTimeout = -1 }, func(p *api.Prog) { p.Ops[5].OnEof = -1 },
	} {
		kept := Copy(p)
		if q := but(p, change); Same(p, q) || Same(q, p) {
			t.Error("Same", i)
		}
		if !Same(p, kept) {
			t.Error("Copy shares", i)
		}
	}
}

// P13.2: Targets and Word; P13.3: Targets of a good script.
func TestTargetsWord(t *testing.T) {
	odd := api.Op{Kind: api.OpExpect, Arms: []api.Arm{{To: 7}, {To: 0}, {To: -3}, {To: 7}}, OnTimeout: -1, OnEof: 900}
	if l := Targets(of(odd, api.Op{Kind: api.OpGoto, To: 5}, api.Op{Kind: api.OpGoto, To: -9}, api.Op{Kind: api.OpSend, To: 3, OnEof: 4, OnTimeout: 4, Arms: []api.Arm{{To: 4}}}, api.Op{Kind: 0, To: 6})); !slices.Equal(l, []int{0, 5, 7, 900}) {
		t.Error(l)
	}
	if len(Targets(of())) != 0 || len(Targets(of(send, done))) != 0 {
		t.Error("none")
	}
	p := of(expect, jump, jump)
	for _, n := range Targets(p) {
		if !Good(p) || n < 0 || n > 3 {
			t.Error(n)
		}
	}
	for i, want := range []string{"", "send", "expect", "goto", "pause", "done", "fail", ""} {
		if Word(i) != want {
			t.Error(i, Word(i))
		}
	}
	if Word(-1) != "" {
		t.Error(-1)
	}
}
