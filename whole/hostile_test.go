package whole

import (
	"math"
	"testing"

	"repartee/api"
	"repartee/arms"
	"repartee/class"
	"repartee/dial"
	"repartee/engine"
	"repartee/fair"
	"repartee/flow"
	"repartee/glob"
	"repartee/grace"
	"repartee/hold"
	"repartee/lang"
	"repartee/ledger"
	"repartee/lex"
	"repartee/load"
	"repartee/log"
	"repartee/parse"
	"repartee/play"
	"repartee/prog"
	"repartee/proj"
	"repartee/prompt"
	"repartee/quote"
	"repartee/replay"
	"repartee/sends"
	"repartee/shell"
	"repartee/show"
	"repartee/solo"
	"repartee/span"
	"repartee/table"
	"repartee/waits"
	"repartee/world"
)

// wild is a number of any kind.
func (s source) wild() int {
	l := []int{math.MinInt, math.MinInt + 1, -4097, -2, -1, 0, 0, 1, 1, 2, 3, 5, 8, 60, 64, 200, 256, 4095, 4096, 4097, 1 << 31, math.MaxInt - 1, math.MaxInt}
	if s.one(2) {
		return s.Intn(4)
	}
	return l[s.Intn(len(l))]
}

// wildText is a text of any bytes, many of them such as texts that are read have.
func (s source) wildText() string {
	pieces := []string{"script a 9 0\n", "send \"x\"\n", "expect 3\n", "on \"a\" b\n", "label b\n", "goto b\n", "tick 1\n", "open 0\n", "read 0\n", "drain 2\n", "round 3\n", "step 0 5 1 match 0 3 run\n", "\"", "\\x", "\\", "[", "]", "^", "-", "%", "*", "?", " ", "\n", "0", "never", "a", "\xff", "\x00", "#"}
	text := ""
	for range s.Intn(12) {
		text += pieces[s.Intn(len(pieces))]
	}
	return text
}

// wildItems is items of any kind.
func (s source) wildItems() []api.Item {
	var l []api.Item
	for range s.Intn(4) * s.Intn(30) {
		x := api.Item{Run: s.one(3)}
		if s.one(2) {
			x.Set = api.Set{s.Uint64(), s.Uint64(), s.Uint64(), s.Uint64()}
		}
		l = append(l, x)
	}
	return l
}

// wildScript is a script of any kind.
func (s source) wildScript() api.Prog {
	p := s.script()
	for i := range p.Ops {
		op := &p.Ops[i]
		switch s.Intn(14) {
		case 0:
			op.Kind = s.wild()
		case 1:
			op.N = int64(s.wild())
		case 2:
			op.To = s.wild()
		case 3:
			op.OnTimeout = s.wild()
		case 4:
			op.OnEof = s.wild()
		case 5:
			op.Text = s.wildText()
		case 6:
			op.Arms = append(op.Arms, api.Arm{Pattern: s.wildText(), To: s.wild()})
		}
	}
	if s.one(4) {
		p.Deadline, p.Jumps = int64(s.wild()), s.wild()
	}
	return p
}

// wildEvents is events of any kind.
func (s source) wildEvents() []api.Event {
	var l []api.Event
	for range s.Intn(40) {
		x := api.Event{Kind: s.Intn(11), Id: s.wild(), N: s.wild(), Tick: int64(s.wild()), Bytes: s.bytes(5), Err: api.Errno(s.wild())}
		if s.one(2) {
			x.Id, x.N = s.Intn(3), s.Intn(3)
		}
		if x.Kind == api.EvStep {
			x.Step = api.Step{Tick: int64(s.wild()), At: s.wild(), What: s.Intn(16), Arm: s.wild(), N: s.wild(), Status: s.Intn(3) * s.Intn(4)}
		}
		l = append(l, x)
	}
	return l
}

// wildRound is a round of any kind.
func (s source) wildRound() api.Round {
	r := api.Round{Ticks: int64(s.wild()), Drain: int64(s.wild()) * int64(s.Intn(2)), Abort: s.one(20)}
	for range s.Intn(4) {
		r.Opens = append(r.Opens, s.wild())
		r.Offers = append(r.Offers, api.Offer{Id: s.wild(), Bytes: s.bytes(9), Eof: s.one(9)})
		r.Reports = append(r.Reports, api.Report{Id: s.wild(), Read: s.one(2), Write: s.one(2), Accept: s.wild()})
	}
	return r
}

// P1: no call panics and each ends, whatever texts and patterns there are.
func TestWildTexts(t *testing.T) {
	for seed := range 3000 {
		r := from(seed)
		a, b := r.wildText(), r.wildText()
		quote.Read(a)
		class.Read(a)
		glob.Parse(a)
		lex.Words(a)
		parse.Parse(a)
		load.Load(a)
		log.Read(a)
		world.Read(a)
		shell.Run(a)
		play.Play(common, a, b)
		span.Text(a, b)
		arms.New(a, b)
		hold.New(r.wild()).Begin(a)
		l := r.wildItems()
		glob.Print(l)
		lang.First(l, a)
		lang.Ends(l, a)
		lang.Starts(l, a, r.wild())
		lang.Void(l)
		span.From(l, a, r.wild())
		span.Find(l, a)
		if x, e := table.Compile(l); e == api.OK {
			x.Done(x.Seek(x.Step(r.Uint64(), 'a'), 'b'))
		}
	}
}

// P1: no call panics and each ends, whatever scripts, setups, inputs and rounds there are.
func TestWildScripts(t *testing.T) {
	for seed := range 3000 {
		r := from(seed)
		s, p := r.setup(), r.wildScript()
		if r.one(9) {
			s.Quantum = r.wild()
		}
		prog.Wrong(p)
		prog.Targets(p)
		show.Prog(p)
		show.Op(p, r.wild())
		flow.Next(p, r.wild())
		flow.Reach(p)
		flow.Loops(p)
		flow.Most(s, p)
		var in []api.Input
		for range 30 {
			in = append(in, api.Input{Kind: r.Intn(7), Bytes: r.bytes(5), N: r.wild(), Tick: int64(r.wild())})
		}
		solo.Came(func() []solo.Out { l, _ := solo.Run(s, p, int64(r.wild()), in...); return l }())
		if d, e := dial.New(s, p, int64(r.wild())); e == api.OK {
			d.Cut(int64(r.wild()))
			d.Ready(int64(r.wild()))
		}
		if e, err := engine.New(s, p, r.wildScript()); err == api.OK {
			for range 10 {
				e.Round(r.wildRound())
				e.Status(r.wild())
				e.Timers()
			}
		}
		fair.Of(s, []api.Prog{p}, r.wildRound(), r.wildRound(), r.wildRound())
		waits.Next(p, api.Step{At: r.wild(), What: r.Intn(16), Arm: r.wild()})
		world.Print(r.wildRound())
	}
}

// P1: no call panics and each ends, whatever events there are; and what counts of others alone is told of none.
func TestWildEvents(t *testing.T) {
	for seed := range 3000 {
		r := from(seed)
		s, l := r.setup(), r.wildEvents()
		scripts := []api.Prog{r.script(), r.script(), r.wildScript()}
		each, id := int64(r.wild()), r.wild()
		log.Write(l)
		play.Text(l)
		play.Ends(l)
		proj.Rounds(l)
		proj.Of(l, id)
		proj.Holds(s, scripts, l)
		fair.Ticks(l)
		waits.Late(s, scripts, l, each)
		sends.Late(s, scripts, l, r.wild())
		sends.Order(scripts, l, r.Intn(3))
		grace.Late(s, l, each)
		grace.Stops(s, l, each)
		grace.Closed(l)
		grace.Once(l, id)
		ledger.Table(l)
		ledger.Line(ledger.Total(l))
		replay.Again(s, scripts, l)
		replay.Aborts(r.wild(), l)
		prompt.Late(s, scripts, l)
		prompt.Worst(scripts, l)
		prompt.Rounds(prompt.Lag{Id: r.wild(), Read: r.wild(), From: r.wild(), Match: r.wild()})
	}
}
