package whole

import (
	"slices"
	"testing"

	"repartee/api"
	"repartee/ledger"
	"repartee/prog"
	"repartee/proj"
	"repartee/prompt"
	"repartee/sends"
	"repartee/tick"
	"repartee/waits"
)

// arrival is an event by which a life comes to an op.
type arrival struct {
	at int // the event's place
	op int
	on int64
}

// arrivals is the events by which the life of one comes to ops, word by word as chapter 35 says; none, if his script isn't there or good.
func arrivals(scripts []api.Prog, l []api.Event, id int) (api.Prog, []arrival) {
	life, _ := proj.Of(l, id)
	if life.Script < 0 || life.Script >= len(scripts) || !prog.Good(scripts[life.Script]) {
		return api.Prog{}, nil
	}
	p := scripts[life.Script]
	opened := slices.IndexFunc(l, func(x api.Event) bool { return x.Kind == api.EvOpen && x.Id == id })
	all := []arrival{{opened, 0, life.From}}
	for i := opened; i < len(l); i++ {
		if x := l[i]; x.Kind == api.EvStep && x.Id == id {
			if op := waits.Next(p, x.Step); op != -1 {
				all = append(all, arrival{i, op, x.Step.Tick})
			}
		}
	}
	return p, all
}

// kindAt is the kind of an op, 0 where there is none.
func kindAt(p api.Prog, op int) int {
	if op >= len(p.Ops) {
		return 0
	}
	return p.Ops[op].Kind
}

// leaves is the place of the first step of one behind a place that did more than to look or to load; how many events there are, if there is none.
func leaves(l []api.Event, id, behind int) int {
	for i := behind + 1; i < len(l); i++ {
		if x := l[i]; x.Kind == api.EvStep && x.Id == id && x.Step.What != api.WLook && x.Step.What != api.WLoad {
			return i
		}
	}
	return len(l)
}

// roundOf is the round of the event at a place.
func roundOf(l []api.Event, at int) int {
	return max(len(proj.Clocks(l[:at+1]))-1, 0)
}

// naiveWaits is waits.Of, as its words say.
func naiveWaits(scripts []api.Prog, l []api.Event) []waits.Wait {
	var all []waits.Wait
	for _, id := range proj.Ids(l) {
		p, come := arrivals(scripts, l, id)
		for _, a := range come {
			if kindAt(p, a.op) != api.OpExpect {
				continue
			}
			w := waits.Wait{Id: id, Op: a.op, From: a.on, Until: tick.Add(a.on, p.Ops[a.op].N)}
			if end := leaves(l, id, a.at); end < len(l) {
				w.Done, w.At, w.What = true, l[end].Step.Tick, l[end].Step.What
			}
			all = append(all, w)
		}
	}
	return all
}

// naiveSends is sends.Of, as its words say.
func naiveSends(scripts []api.Prog, l []api.Event) []sends.Send {
	var all []sends.Send
	for _, id := range proj.Ids(l) {
		p, come := arrivals(scripts, l, id)
		for _, a := range come {
			if kindAt(p, a.op) != api.OpSend {
				continue
			}
			x := sends.Send{Id: id, Op: a.op, Long: len(p.Ops[a.op].Text), From: roundOf(l, a.at)}
			end := leaves(l, id, a.at)
			for i := a.at + 1; i < min(end+1, len(l)); i++ {
				if l[i].Kind == api.EvWrite && l[i].Id == id {
					x.Taken = min(x.Taken+min(max(l[i].N, 0), 1000000000), 1000000000)
				}
				if !x.Done && (i == end || x.Taken >= x.Long) {
					x.Done, x.At = true, roundOf(l, i)
				}
			}
			all = append(all, x)
		}
	}
	return all
}

// naiveLags is prompt.Of, as its words say.
func naiveLags(scripts []api.Prog, l []api.Event) []prompt.Lag {
	var all []prompt.Lag
	for _, id := range proj.Ids(l) {
		_, come := arrivals(scripts, l, id)
		if len(come) == 0 {
			continue
		}
		n, gone := 0, 0
		for i := come[0].at; i < len(l); i++ {
			if l[i].Kind != api.EvStep || l[i].Id != id {
				continue
			}
			if l[i].Step.What == api.WMatch {
				gone = min(gone+min(max(l[i].Step.N, 0), 1000000000), 1000000000)
				x := prompt.Lag{Id: id, Step: n, Gone: gone, Read: -1, Match: roundOf(l, i)}
				read := 0
				for j := come[0].at; j < i && x.Read < 0; j++ {
					if l[j].Kind == api.EvRead && l[j].Id == id {
						read += len(l[j].Bytes)
						if read >= gone {
							x.Read = roundOf(l, j)
						}
					}
				}
				if gone == 0 {
					x.Read = 0
				}
				for _, a := range come {
					if a.at < i {
						x.From = roundOf(l, a.at)
					}
				}
				all = append(all, x)
			}
			n++
		}
	}
	return all
}

// What is measured of events of any kind, and of those that an engine tells, is what the words of the chapters say of them.
func TestMeasuredAsSaid(t *testing.T) {
	waited, sent, lagged := 0, 0, 0
	for seed := range 4000 {
		r := from(seed)
		l, scripts := r.wildEvents(), []api.Prog{r.script(), r.script(), r.wildScript()}
		if seed%8 == 0 {
			x := sampled(t, seed)
			l, scripts = x.told, x.scripts
		}
		w, s, g := naiveWaits(scripts, l), naiveSends(scripts, l), naiveLags(scripts, l)
		if got := waits.Of(scripts, l); !slices.Equal(got, w) {
			t.Fatalf("waits %d:\n got %+v\nwant %+v", seed, got, w)
		}
		if got := sends.Of(scripts, l); !slices.Equal(got, s) {
			t.Fatalf("sends %d:\n got %+v\nwant %+v", seed, got, s)
		}
		if got := prompt.Of(scripts, l); !slices.Equal(got, g) {
			t.Fatalf("lags %d:\n got %+v\nwant %+v", seed, got, g)
		}
		waited, sent, lagged = waited+len(w), sent+len(s), lagged+len(g)
		var rows []ledger.Row
		for _, id := range proj.Ids(l) {
			row, _ := ledger.Of(l, id)
			rows = append(rows, row)
		}
		if got := ledger.Rows(l); !slices.Equal(got, rows) {
			t.Fatalf("rows %d:\n got %+v\nwant %+v", seed, got, rows)
		}
	}
	if waited < 3000 || sent < 1000 || lagged < 500 {
		t.Error("too few", waited, sent, lagged)
	}
}
