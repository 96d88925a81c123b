package sends

import (
	"slices"
	"strings"
	"testing"

	"repartee/api"
	"repartee/parse"
)

// script is the script of some lines.
func script(t *testing.T, lines ...string) api.Prog {
	p, spot, e := parse.Parse("script a never 9\n" + strings.Join(lines, "\n"))
	if e != api.OK {
		t.Fatal(lines, spot, e)
	}
	return p
}

// short events.
var round = api.Event{Kind: api.EvRound}

func open(id, n int) api.Event { return api.Event{Kind: api.EvOpen, Id: id, N: n} }
func step(id, at, what int) api.Event {
	return api.Event{Kind: api.EvStep, Id: id, Step: api.Step{At: at, What: what}}
}
func wrote(id int, b string) api.Event {
	return api.Event{Kind: api.EvWrite, Id: id, N: len(b), Bytes: b}
}
func took(id, n int) api.Event { return api.Event{Kind: api.EvWrite, Id: id, N: n} }

// P36.1: Of.
func TestOf(t *testing.T) {
	scripts := []api.Prog{script(t, "label t", "send \"hello\"", "expect 3", "timeout t", "send \"abc\""), {}}
	l := []api.Event{
		open(7, 0), round, open(3, 0), open(1, 0), open(2, 1), open(4, 2), took(3, 0), step(3, 0, api.WLoad), round, took(3, 3), {Kind: api.EvRead, Id: 3, N: 9, Bytes: "123456789"}, step(1, 0, api.WLoad), step(3, 0, api.WLoad), step(3, 0, api.WLook), took(3, -9),
		round, took(3, 2), took(1, 1), round, took(3, 4), step(3, 0, api.WSent), took(3, 77), step(1, 0, api.WDrained),
		round, step(3, 1, api.WTimeout), took(3, 1), round, took(1, 9), open(3, 0),
	}
	want := []Send{
		{Id: 1, Op: 0, Long: 5, From: 0, Taken: 1, Done: true, At: 3},
		{Id: 3, Op: 0, Long: 5, From: 0, Taken: 9, Done: true, At: 2},
		{Id: 3, Op: 0, Long: 5, From: 4, Taken: 1},
		{Id: 7, Op: 0, Long: 5, From: 0},
	}
	if got := Of(scripts, l); !slices.Equal(got, want) {
		t.Error(got)
	}
	rich := []api.Event{open(0, 0), took(0, 1<<62), took(0, 1<<62), took(0, 5)}
	if got := Of(scripts, rich); !slices.Equal(got, []Send{{Long: 5, Taken: 1000000000, Done: true}}) {
		t.Error(got)
	}
	if len(Of(nil, l)) != 0 || len(Of(scripts, nil)) != 0 {
		t.Error("none")
	}
	next := []api.Event{open(0, 0), step(0, 1, api.WEof), step(0, 1, 0), {Kind: api.EvStep, Step: api.Step{At: 0, What: api.WSent}}, step(0, 1, api.WJump)}
	if got := Of([]api.Prog{script(t, "pause 1", "send \"x\"")}, next); len(got) != 0 {
		t.Error(got)
	}
}

// plain is a setup of which Wait is 4.
var plain = api.Setup{Live: 2, Ring: 4, Win: 3, Out: 3, Quantum: 2, Visits: 1}

// P36.2: Bound and Late.
func TestBoundLate(t *testing.T) {
	if Bound(plain, Send{Long: 5}, 2) != 35 || Bound(plain, Send{Long: 1}, 1000000) != 1000005 || Bound(plain, Send{Long: 256}, 1) != 256*6 {
		t.Error("Bound")
	}
	for _, x := range []struct{ long, write int }{{0, 2}, {-1, 2}, {257, 2}, {5, 0}, {5, -1}, {5, 1000001}} {
		if Bound(plain, Send{Long: x.long}, x.write) != 0 {
			t.Error(x)
		}
	}
	if Bound(api.Setup{}, Send{Long: 5}, 2) != 0 {
		t.Error("no setup")
	}
	// One of two bytes that begins in round 1: with write 1 it is done in round 13 at the latest.
	scripts := []api.Prog{script(t, "send \"xy\"")}
	of := func(at, last int) []api.Event {
		l := []api.Event{round, round, open(0, 0)}
		for n := 2; n <= last; n++ {
			l = append(l, round)
			if n == at {
				l = append(l, took(0, 2))
			}
		}
		return l
	}
	for _, x := range []struct {
		at, last int
		late     bool
	}{{13, 13, false}, {14, 14, true}, {14, 20, true}, {0, 12, false}, {0, 13, true}, {13, 20, false}, {2, 20, false}} {
		got := Late(plain, scripts, of(x.at, x.last), 1)
		want := []Send{{Long: 2, From: 1}}
		if x.at > 0 {
			want[0].Taken, want[0].Done, want[0].At = 2, true, x.at
		}
		if !x.late {
			want = nil
		}
		if !slices.Equal(got, want) {
			t.Error(x, got)
		}
	}
	if len(Late(api.Setup{}, scripts, of(0, 99), 1)) != 0 || len(Late(plain, scripts, of(0, 99), 0)) != 0 || len(Late(plain, scripts, of(0, 99), 99)) != 0 || len(Late(plain, scripts, nil, 1)) != 0 {
		t.Error("no bound")
	}
}

// P36.3: Order.
func TestOrder(t *testing.T) {
	scripts := []api.Prog{script(t, "send \"ab\"", "send \"cd\"", "expect 3"), {}, script(t, "expect 3"), {Name: "A"}, script(t, "pause 1")}
	one, two := step(0, 0, api.WSent), step(0, 1, api.WSent)
	for i, x := range []struct {
		l     []api.Event
		texts string
		ok    bool
	}{
		{[]api.Event{open(0, 0)}, "ab", true}, {[]api.Event{open(0, 0), wrote(0, "a")}, "ab", true}, {[]api.Event{open(0, 0), wrote(0, "b")}, "ab", false}, {[]api.Event{open(0, 0), wrote(0, "abc")}, "ab", false},
		{[]api.Event{open(0, 0), wrote(0, "ab"), one}, "abcd", true}, {[]api.Event{open(0, 0), wrote(0, "a"), one}, "abcd", false}, {[]api.Event{open(0, 0), wrote(0, "ab"), one, wrote(0, "c")}, "abcd", true}, {[]api.Event{open(0, 0), wrote(0, "ab"), one, wrote(0, "cd"), two, wrote(1, "x")}, "abcd", true}, {[]api.Event{open(0, 0), wrote(0, "ab"), one, wrote(0, "cx"), two}, "abcd", false},
		{[]api.Event{open(0, 0), wrote(0, "ab"), step(0, 0, api.WLook), one, wrote(0, "c"), two, step(0, 2, api.WTimeout), step(0, 2, api.WLook)}, "abcd", true}, {[]api.Event{open(0, 4), step(0, 0, api.WWoke)}, "", true},
		{[]api.Event{open(0, 2)}, "", true}, {[]api.Event{open(0, 2), wrote(0, "x")}, "", false}, {[]api.Event{open(0, 1)}, "", false}, {[]api.Event{open(0, 3)}, "", false}, {[]api.Event{open(1, 0)}, "", false}, {nil, "", false},
	} {
		if texts, ok := Order(scripts, x.l, 0); texts != x.texts || ok != x.ok {
			t.Error(i, texts, ok)
		}
	}
}
