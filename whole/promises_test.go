package whole

import (
	"slices"
	"strings"
	"testing"

	"repartee/api"
	"repartee/flow"
	"repartee/glob"
	"repartee/lang"
	"repartee/proj"
	"repartee/quote"
	"repartee/shell"
	"repartee/show"
	"repartee/world"
)

// found is which arm is found first in a text, and to where, by what patterns mean.
func found(l []api.Arm, text string) (arm, n int, ok bool) {
	for i, x := range l {
		items, _, _ := glob.Parse(x.Pattern)
		if _, to, there := lang.First(items, text); there && (!ok || to < n) {
			arm, n, ok = i, to, true
		}
	}
	return arm, n, ok
}

// P1: each match is one by what patterns mean; P4: queues are never longer than they may be, and nothing is lost.
func TestMatchesAndQueues(t *testing.T) {
	matches := 0
	for seed := range 1000 {
		x := sampled(t, seed)
		for _, id := range proj.Ids(x.told) {
			text, script := "", api.Prog{}
			for _, v := range x.told {
				if v.Id != id {
					continue
				}
				switch {
				case v.Kind == api.EvOpen:
					script = x.scripts[v.N]
				case v.Kind == api.EvRead:
					text += v.Bytes
				case v.Kind == api.EvWrite && v.N > x.setup.Out, v.Kind == api.EvStep && v.Step.What == api.WLoad && v.Step.N > x.setup.Out:
					t.Fatal("too much laid out", seed, v)
				case v.Kind == api.EvStep && v.Step.What == api.WMatch:
					matches++
					arm, n, ok := found(script.Ops[v.Step.At].Arms, text)
					if arm != v.Step.Arm || n != v.Step.N || !ok || n > x.setup.Win {
						t.Fatal("a match that is none", seed, v, arm, n, ok)
					}
					text = text[n:]
				}
				if len(text) > x.setup.Ring+x.setup.Win {
					t.Fatal("too much held", seed, v)
				}
			}
		}
	}
	if matches < 1000 {
		t.Error("too few matches", matches)
	}
}

// P6: no dialogue does more steps than its script may, and one for each byte that was read.
func TestStepsOfEach(t *testing.T) {
	for seed := range 1000 {
		x := sampled(t, seed)
		for _, id := range proj.Ids(x.told) {
			life, _ := proj.Of(x.told, id)
			if len(life.Steps) > flow.Most(x.setup, x.scripts[life.Script])+len(life.Read) {
				t.Fatal(seed, id)
			}
		}
	}
}

// session is a shell that was given scripts and rounds by lines, with some lines that are wrong.
func session(seed int) *shell.Shell {
	r := from(seed)
	s := shell.New()
	for _, word := range []string{"live", "ring", "win", "out", "quantum", "visits"} {
		if r.one(2) {
			s.Do(word + " " + []string{"0", "1", "3", "x", "7"}[r.Intn(5)])
		}
	}
	for range 3 {
		p := r.script()
		p.Name += []string{"a", "b", "c"}[r.Intn(3)]
		text, _ := show.Prog(p)
		if r.one(4) {
			text = strings.Replace(text, "label", "lable", 1)
		}
		s.Do("load " + quote.Quote(text))
	}
	s.Do("start")
	for _, round := range r.rounds(60) {
		text, _ := world.Print(round)
		s.Do("do " + quote.Quote(text))
		if r.one(9) {
			s.Do([]string{"ends", "do", "late 3", "start", "table"}[r.Intn(5)])
		}
	}
	return s
}

// P39.3: behind whatever lines check tells holds, and late tells 0 0 0.
func TestSessions(t *testing.T) {
	events := 0
	for seed := range 400 {
		s := session(seed)
		events += len(s.Events())
		if l := s.Do("check"); !slices.Equal(l, []string{"holds"}) {
			t.Fatal(seed, l)
		}
		if l := s.Do("late"); !slices.Equal(l, []string{"late 0 0 0"}) {
			t.Fatal(seed, l)
		}
	}
	if events < 20000 {
		t.Error("too few events", events)
	}
}
