// Package course takes what an engine told apart by whom it is of, in one go, with the rounds in which it was told, and the ops to which each came: what waits, sends, grace, ledger and prompt go through.
package course

import (
	"maps"
	"slices"

	"repartee/api"
	"repartee/prog"
)

// Part is the events of one: the round ahead of his first opening, that, and what is of him or of a drain behind it; and of each event its round.
type Part struct {
	Id     int
	Events []api.Event
	Rounds []int
}

// add adds an event of a round.
func (p *Part) add(x api.Event, round int) {
	p.Events = append(p.Events, x)
	p.Rounds = append(p.Rounds, round)
}

// splitter is what was taken apart so far.
type splitter struct {
	parts map[int]*Part
	begun int       // how many rounds began
	last  api.Event // the one that began last
}

// Parts is the parts of all who were opened, by Ids rising.
func Parts(l []api.Event) []Part {
	s := &splitter{parts: map[int]*Part{}}
	for _, x := range l {
		s.add(x)
	}
	var parts []Part
	for _, id := range slices.Sorted(maps.Keys(s.parts)) {
		parts = append(parts, *s.parts[id])
	}
	return parts
}

// add takes an event more.
func (s *splitter) add(x api.Event) {
	switch x.Kind {
	case api.EvRound:
		s.begun++
		s.last = x
	case api.EvOpen:
		s.open(x)
	case api.EvDrain:
		for _, p := range s.parts {
			p.add(x, s.round())
		}
	case api.EvRead, api.EvEof, api.EvWrite, api.EvStep:
		if p := s.parts[x.Id]; p != nil {
			p.add(x, s.round())
		}
	}
}

// round is the number of the round, from 0 on.
func (s *splitter) round() int {
	return max(s.begun-1, 0)
}

// open begins the part of one, if he was not opened before.
func (s *splitter) open(x api.Event) {
	if s.parts[x.Id] != nil {
		return
	}
	p := &Part{Id: x.Id}
	if s.begun > 0 {
		p.add(s.last, s.round())
	}
	p.add(x, s.round())
	s.parts[x.Id] = p
}

// Mark is an event of one: in which round it is, and, if one comes to an op by it, that op, its kind (0 of the end), and the tick; else -1, 0 and 0.
type Mark struct {
	Event api.Event
	Round int
	Op    int
	Kind  int
	Tick  int64
}

// Course is what happened to one whose script there is, and is good, from his opening on.
type Course struct {
	Id     int
	Script int
	Marks  []Mark
}

// Of is the courses of all whose scripts there are, and are good, by Ids rising.
func Of(scripts []api.Prog, l []api.Event) []Course {
	good := make([]bool, len(scripts))
	for n, p := range scripts {
		good[n] = prog.Good(p)
	}
	var courses []Course
	for _, part := range Parts(l) {
		n := part.script()
		if n >= 0 && n < len(scripts) && good[n] {
			courses = append(courses, Course{Id: part.Id, Script: n, Marks: part.marks(scripts[n])})
		}
	}
	return courses
}

// script is the number of one's script.
func (p Part) script() int {
	opened := slices.IndexFunc(p.Events, func(x api.Event) bool { return x.Kind == api.EvOpen })
	return p.Events[opened].N
}

// marks is the events of one from his opening on, by his script.
func (p Part) marks(script api.Prog) []Mark {
	var marks []Mark
	now := int64(0)
	for i, x := range p.Events {
		m := Mark{Event: x, Round: p.Rounds[i], Op: -1}
		switch x.Kind {
		case api.EvRound:
			now = x.Tick
			continue
		case api.EvOpen:
			m.come(script, 0, now)
		case api.EvStep:
			m.come(script, Next(script, x.Step), x.Step.Tick)
		}
		marks = append(marks, m)
	}
	return marks
}

// come notes to which op one comes, if he comes to one, and when.
func (m *Mark) come(script api.Prog, op int, at int64) {
	if op < 0 {
		return
	}
	m.Op, m.Tick = op, at
	if op < len(script.Ops) {
		m.Kind = script.Ops[op].Kind
	}
}

// Leaves tells whether one leaves his op by an event, as far as that tells by itself: it is a step, and did more than to look or to lay something out.
func (m Mark) Leaves() bool {
	return m.Event.Kind == api.EvStep && m.Event.Step.What != api.WLook && m.Event.Step.What != api.WLoad
}

// Next is the op to which one comes by a step of a good script, -1 if he comes to none.
func Next(p api.Prog, x api.Step) int {
	if x.Status != api.SRun || x.At < 0 || x.At >= len(p.Ops) {
		return -1
	}
	op := p.Ops[x.At]
	switch {
	case op.Kind == api.OpSend && x.What == api.WSent:
		return x.At + 1
	case op.Kind == api.OpPause && x.What == api.WWoke:
		return x.At + 1
	case op.Kind == api.OpGoto && x.What == api.WJump:
		return op.To
	case op.Kind == api.OpExpect:
		return branch(op, x)
	}
	return -1
}

// branch is the op to which one comes by a step of an op that expects.
func branch(op api.Op, x api.Step) int {
	switch {
	case x.What == api.WMatch && x.Arm >= 0 && x.Arm < len(op.Arms):
		return op.Arms[x.Arm].To
	case x.What == api.WTimeout:
		return op.OnTimeout
	case x.What == api.WEof:
		return op.OnEof
	}
	return -1
}
