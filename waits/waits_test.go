package waits

import (
	"slices"
	"strings"
	"testing"

	"repartee/api"
	"repartee/parse"
)

const never = api.Never

// script is the script of some lines.
func script(t *testing.T, lines ...string) api.Prog {
	p, spot, e := parse.Parse("script a never 9\n" + strings.Join(lines, "\n"))
	if e != api.OK {
		t.Fatal(lines, spot, e)
	}
	return p
}

// short events.
func round(at int64) api.Event { return api.Event{Kind: api.EvRound, Tick: at} }
func open(id, n int) api.Event { return api.Event{Kind: api.EvOpen, Id: id, N: n} }
func step(id int, tick int64, at, what int) api.Event {
	return api.Event{Kind: api.EvStep, Id: id, Step: api.Step{Tick: tick, At: at, What: what}}
}

// P35.1: Next.
func TestNext(t *testing.T) {
	p := script(t, "send \"x\"", "expect 5", "on \"a\" b", "on \"b\" c", "timeout d", "eof e", "label b", "pause 3", "label c", "goto e", "label d", "done", "fail", "expect 5", "label e")
	for at, want := range []map[int]int{{api.WSent: 1}, {api.WMatch: 2, api.WTimeout: 4, api.WEof: 7}, {api.WWoke: 3}, {api.WJump: 7}, nil, nil, nil, nil, nil} {
		for what := -1; what < 16; what++ {
			n, ok := want[what]
			if !ok {
				n = -1
			}
			if got := Next(p, api.Step{At: at, What: what}); got != n {
				t.Error(at, what, got)
			}
			for _, x := range []api.Step{{At: at, What: what, Status: 1}, {At: at, What: what, Status: -1}} {
				if Next(p, x) != -1 {
					t.Error("ended", x)
				}
			}
			if Next(api.Prog{Ops: p.Ops}, api.Step{At: at, What: what}) != -1 {
				t.Error("no good script")
			}
		}
	}
	for arm, want := range map[int]int{-1: -1, 0: 2, 1: 3, 2: -1, 1 << 60: -1} {
		if got := Next(p, api.Step{At: 1, What: api.WMatch, Arm: arm}); got != want {
			t.Error("arm", arm, got)
		}
	}
	for _, at := range []int{-1, 8, 1 << 60} {
		if Next(p, api.Step{At: at, What: api.WSent}) != -1 {
			t.Error(at)
		}
	}
}

// P35.2: Of.
func TestOf(t *testing.T) {
	p := script(t, "label t", "expect 10", "on \"a\" b", "timeout t", "label b", "pause 2", "expect never", "eof b")
	scripts := []api.Prog{p, {}, script(t, "pause 3")}
	l := []api.Event{
		open(8, 0), open(9, 2), step(9, 2, 0, api.WWoke), round(3), open(5, 0), open(1, 0), open(2, 1), open(3, 9), open(4, 2), step(1, 3, 0, api.WLook), step(1, 3, 0, api.WLoad),
		round(14), step(5, 14, 0, api.WTimeout), step(1, 14, 0, api.WMatch), step(1, 15, 1, api.WWoke), step(2, 15, 0, api.WTimeout),
		step(5, 16, 0, api.WLook), {Kind: api.EvRead, Id: 5}, {Kind: api.EvStep, Id: 5, Step: api.Step{Tick: 17, What: api.WDrained, Status: api.SDrained}}, step(5, 18, 0, api.WTimeout), open(1, 0), step(1, 19, 2, 0),
	}
	want := []Wait{
		{Id: 1, Op: 0, From: 3, Until: 13, Done: true, At: 14, What: api.WMatch},
		{Id: 1, Op: 2, From: 15, Until: never, Done: true, At: 19},
		{Id: 5, Op: 0, From: 3, Until: 13, Done: true, At: 14, What: api.WTimeout},
		{Id: 5, Op: 0, From: 14, Until: 24, Done: true, At: 17, What: api.WDrained},
		{Id: 5, Op: 0, From: 18, Until: 28},
		{Id: 8, Op: 0, From: 0, Until: 10},
	}
	if got := Of(scripts, l); !slices.Equal(got, want) {
		t.Error(got)
	}
	if len(Of(nil, l)) != 0 || len(Of(scripts, nil)) != 0 {
		t.Error("none")
	}
	far := []api.Event{round(never - 5), open(0, 0)}
	if got := Of(scripts, far); !slices.Equal(got, []Wait{{From: never - 5, Until: never}}) {
		t.Error(got)
	}
}

// P35.3: Last, Bound, Late.
func TestLate(t *testing.T) {
	s := api.Setup{Live: 2, Ring: 4, Win: 8, Out: 3, Quantum: 9, Visits: 1}
	if Last(nil) != 0 || Last([]api.Event{round(9), round(4), {Kind: api.EvDrain, Tick: 8}}) != 4 {
		t.Error("Last")
	}
	if Bound(s, Wait{Until: 13}, 2) != 19 || Bound(s, Wait{Until: never}, 2) != never || Bound(api.Setup{}, Wait{Until: 13}, 2) != 0 {
		t.Error("Bound")
	}
	scripts := []api.Prog{script(t, "expect 10", "timeout b", "label b", "expect never")}
	of := func(at, last int64) []api.Event {
		l := []api.Event{round(3), open(0, 0), step(0, 4, 0, api.WLook)}
		if at > 0 {
			l = append(l, step(0, at, 0, api.WTimeout))
		}
		return append(l, round(last))
	}
	for _, x := range []struct {
		at, last int64
		late     bool
	}{{18, 19, false}, {19, 19, true}, {19, 18, false}, {0, 18, false}, {0, 19, true}, {50, 60, true}, {13, 60, false}} {
		got := Late(s, scripts, of(x.at, x.last), 2)
		want := []Wait{{Op: 0, From: 3, Until: 13, Done: x.at > 0, At: x.at}}
		if x.at > 0 {
			want[0].What = api.WTimeout
		}
		if !x.late {
			want = nil
		}
		if !slices.Equal(got, want) {
			t.Error(x, got)
		}
	}
	for _, each := range []int64{0, -1, -1 << 63} {
		if len(Late(s, scripts, of(50, 60), each)) != 0 {
			t.Error(each)
		}
	}
	if len(Late(s, scripts, of(50, 60), 1)) != 1 || len(Late(s, scripts, of(15, 60), 1)) != 0 || len(Late(s, scripts, of(16, 60), 1)) != 1 {
		t.Error("each tick")
	}
	if len(Late(api.Setup{}, scripts, of(50, 60), 2)) != 0 || len(Late(s, scripts, of(0, never), never)) != 0 {
		t.Error("no bound")
	}
}
