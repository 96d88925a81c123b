// Package whole has no code of its own: its tests hold the promises that speak of whatever scripts and rounds there are against many of them, made by a short rule.
package whole

import (
	"math/rand"
	"strings"

	"repartee/api"
	"repartee/prog"
)

// source makes samples; the same number makes the same ones.
type source struct{ *rand.Rand }

// from is the source of a number.
func from(seed int) source {
	return source{rand.New(rand.NewSource(int64(seed)))}
}

// one tells, one time of n, true.
func (s source) one(n int) bool {
	return s.Intn(n) == 0
}

// bytes is up to most bytes.
func (s source) bytes(most int) string {
	var b strings.Builder
	for range s.Intn(most + 1) {
		b.WriteByte("aabbc"[s.Intn(5)])
	}
	return b.String()
}

// setup is a setup of small numbers.
func (s source) setup() api.Setup {
	return api.Setup{Live: 1 + s.Intn(4), Ring: 1 + s.Intn(8), Win: 1 + s.Intn(20), Out: 1 + s.Intn(5), Quantum: 1 + s.Intn(12), Visits: 1 + s.Intn(3)}
}

// pattern is a pattern that may be waited for.
func (s source) pattern() string {
	return []string{"a", "b", "ab", "c*b", "?a", "[^a]b", "cc", "a*", "*c", "[ab]c"}[s.Intn(10)]
}

// op is an op of a script with so many.
func (s source) op(ops int) api.Op {
	to := func() int { return s.Intn(ops + 1) }
	op := api.Op{Kind: []int{1, 1, 1, 2, 2, 2, 2, 2, 2, 2, 3, 4, 5, 6}[s.Intn(14)]}
	switch op.Kind {
	case api.OpSend:
		op.Text = "x" + s.bytes(11)
	case api.OpExpect:
		op.N, op.OnTimeout, op.OnEof = []int64{0, 2, 9, 20, 60, api.Never}[s.Intn(6)], to()-s.Intn(2), to()-s.Intn(2)
		op.OnTimeout, op.OnEof = max(op.OnTimeout, -1), max(op.OnEof, -1)
		for range s.Intn(5) {
			op.Arms = append(op.Arms, api.Arm{Pattern: s.pattern(), To: to()})
		}
	case api.OpGoto:
		op.To = to()
	case api.OpPause:
		op.N = int64(s.Intn(6))
	}
	return op
}

// script is a good script.
func (s source) script() api.Prog {
	p := api.Prog{Name: "s", Deadline: []int64{3, 40, 90, api.Never}[s.Intn(4)], Jumps: []int{0, 2, 9, 90}[s.Intn(4)]}
	ops := s.Intn(12)
	for range ops {
		p.Ops = append(p.Ops, s.op(ops))
	}
	if !prog.Good(p) {
		panic("a sample that is not good")
	}
	return p
}

// input is something that comes to a dialogue at about a tick.
func (s source) input(now int64) api.Input {
	switch s.Intn(12) {
	case 0, 1, 2:
		return api.Input{Kind: api.InBytes, Bytes: s.bytes(6)}
	case 3, 4:
		return api.Input{Kind: api.InTaken, N: s.Intn(7) - 1}
	case 5:
		if s.one(4) {
			return api.Input{Kind: api.InEof}
		}
		if s.one(4) {
			return api.Input{Kind: api.InCut, Tick: now + int64(s.Intn(20))}
		}
	case 6:
		if s.one(9) {
			return api.Input{Kind: s.Intn(9) - 2, Bytes: "ab", N: 3, Tick: now}
		}
	}
	return api.Input{Kind: api.InStep, Tick: now}
}

// inputs are what comes to a dialogue.
func (s source) inputs(n int) []api.Input {
	var l []api.Input
	now := int64(s.Intn(9))
	for range n {
		if s.one(3) {
			now += int64(s.Intn(4))
		}
		l = append(l, s.input(now))
	}
	return l
}

// scripts are five scripts, most of them good.
func (s source) scripts() []api.Prog {
	var l []api.Prog
	for range 5 {
		p := s.script()
		if s.one(12) {
			p.Jumps = -1
		}
		l = append(l, p)
	}
	return l
}

// rounds are n rounds of what may happen to an engine that has the scripts of a sample; in some of them it is drained, or aborted.
func (s source) rounds(n int) []api.Round {
	var l []api.Round
	opened, drains := 0, s.Intn(4)
	for range n {
		r := api.Round{Ticks: int64(s.Intn(4))}
		if s.one(12) {
			r.Ticks = int64(s.Intn(30))
		}
		for s.one(5) {
			r.Opens = append(r.Opens, s.Intn(5+s.Intn(12)/11))
			opened++
		}
		who := func() int { return max(0, opened-1-s.Intn(5)) }
		for !s.one(3) {
			r.Offers = append(r.Offers, api.Offer{Id: who(), Bytes: s.bytes(7), Eof: s.one(30)})
		}
		for !s.one(5) {
			x := api.Report{Id: who(), Read: s.one(2), Write: s.one(2)}
			if x.Write {
				x.Accept = s.Intn(6)
			} else {
				x.Read = true
			}
			r.Reports = append(r.Reports, x)
		}
		if drains == 1 && s.one(n) || drains == 2 && s.one(n/3) {
			r.Drain = int64(1 + s.Intn(12))
		}
		r.Abort = drains == 3 && s.one(n)
		l = append(l, r)
	}
	return l
}
