package dial

import (
	"strings"
	"testing"

	"repartee/api"
	"repartee/parse"
)

// plain is a setup.
var plain = api.Setup{Live: 2, Ring: 4, Win: 6, Out: 3, Quantum: 3, Visits: 1}

// script is the script of some lines behind a head.
func script(t *testing.T, head string, lines ...string) api.Prog {
	p, spot, e := parse.Parse("script " + head + "\n" + strings.Join(lines, "\n"))
	if e != api.OK {
		t.Fatal(head, lines, spot, e)
	}
	return p
}

// begun is a dialogue of a script, begun at a tick.
func begun(t *testing.T, s api.Setup, p api.Prog, now int64) *Dial {
	d, e := New(s, p, now)
	if d == nil || e != api.OK {
		t.Fatal(p, e)
	}
	return d
}

// stands is all that a dialogue tells of itself.
type stands struct {
	status, at, jumps, room, waits int
	window, pending                string
	ended                          bool
	next                           int64
	price                          int
}

// told is what d tells of itself.
func told(d *Dial) stands {
	return stands{d.Status(), d.At(), d.Jumps(), d.Room(), d.Waits(), d.Window(), d.Pending(), d.Ended(), d.Next(), d.Price()}
}

// does checks that d does a step at a tick, and just that.
func does(t *testing.T, d *Dial, now int64, want api.Step) {
	t.Helper()
	if !d.Ready(now) {
		t.Error("not ready")
	}
	if x, ok := d.Step(now); x != want || !ok {
		t.Errorf("%+v %v, want %+v", x, ok, want)
	}
}

// idle checks that d has no step to do at a tick, and that trying one changes nothing.
func idle(t *testing.T, d *Dial, now int64) {
	t.Helper()
	ahead := told(d)
	if x, ok := d.Step(now); x != (api.Step{}) || ok || d.Ready(now) || told(d) != ahead {
		t.Errorf("%+v %v", x, ok)
	}
}

const never = api.Never

// P22.1: New.
func TestNew(t *testing.T) {
	p := script(t, "a 9 0", "pause 3")
	for _, s := range []api.Setup{{}, {Live: 2, Ring: 4, Win: 6, Out: 3, Quantum: 3}} {
		if d, e := New(s, api.Prog{}, 0); d != nil || e != api.ErrArg {
			t.Error(e)
		}
	}
	if d, e := New(plain, api.Prog{}, 0); d != nil || e != api.ErrForm {
		t.Error(e)
	}
	for now, want := range map[int64]stands{5: {room: 4, next: 8, price: 1}, -5: {room: 4, next: 3, price: 1}, never - 2: {room: 4, next: never, price: 1}} {
		if d := begun(t, plain, p, now); told(d) != want {
			t.Error(now, told(d))
		}
	}
	if d := begun(t, plain, script(t, "a 9 0", "done"), 5); told(d) != (stands{room: 4, next: 14, price: 1}) {
		t.Error(told(d))
	}
	q := script(t, "a 9 5", "expect 9", "on \"a\" x", "label x")
	d := begun(t, plain, q, 5)
	q.Ops[0].Arms[0].Pattern = "b"
	q.Ops[0].Kind = api.OpFail
	d.Put("a")
	does(t, d, 5, api.Step{Tick: 5, What: api.WMatch, N: 1})
}

// P22.2: to which op it comes, and what it waits for there.
func TestComes(t *testing.T) {
	d := begun(t, plain, script(t, "a never 9", "pause 2", "expect 4", "on \"ok\" x", "timeout x", "label x", "send \"hello\"", "expect never"), 10)
	idle(t, d, 11)
	does(t, d, 13, api.Step{Tick: 13, What: api.WWoke})
	if told(d) != (stands{at: 1, room: 4, next: 17, price: 1}) {
		t.Error(told(d))
	}
	d.Put("zok")
	does(t, d, 14, api.Step{Tick: 14, At: 1, What: api.WMatch, N: 3})
	if told(d) != (stands{at: 2, jumps: 1, room: 4, next: never, price: 4}) {
		t.Error(told(d))
	}
	does(t, d, 14, api.Step{Tick: 14, At: 2, What: api.WLoad, N: 3})
	d.Take(3)
	does(t, d, 14, api.Step{Tick: 14, At: 2, What: api.WLoad, N: 2})
	d.Take(3)
	does(t, d, 14, api.Step{Tick: 14, At: 2, What: api.WSent, N: 5})
	if told(d) != (stands{at: 3, jumps: 1, room: 4, next: never, price: 1}) {
		t.Error(told(d))
	}
	idle(t, d, never)
}

// P22.2: a window waits for the arms of its own op, and looks at what is left anew.
func TestComesAnew(t *testing.T) {
	d := begun(t, plain, script(t, "a never 9", "expect 9", "on \"x\" b", "label b", "expect 9", "on \"ab\" c", "label c"), 0)
	d.Put("abab")
	does(t, d, 0, api.Step{What: api.WLook, N: 4})
	idle(t, d, 0)
	d.Put("xab")
	if d.Price() != 1+3 {
		t.Error(d.Price())
	}
	does(t, d, 1, api.Step{Tick: 1, What: api.WMatch, N: 5})
	if d.Waits() != 2 || d.Window() != "" || d.Price() != 1+2 {
		t.Error(told(d))
	}
	does(t, d, 1, api.Step{Tick: 1, At: 1, What: api.WMatch, N: 2})
	d = begun(t, plain, script(t, "a never 9", "expect 3", "on \"x\" b", "timeout b", "label b", "expect 9", "on \"ab\" c", "label c"), 0)
	d.Put("abab")
	does(t, d, 3, api.Step{Tick: 3, What: api.WTimeout, N: 4})
	if d.Window() != "abab" || d.Price() != 1+4 || d.Next() != 12 {
		t.Error(told(d))
	}
	does(t, d, 3, api.Step{Tick: 3, At: 1, What: api.WMatch, N: 2})
	if d.Window() != "ab" || d.At() != 2 {
		t.Error(told(d))
	}
}

// P22.4: one byte that was not looked at is enough, in the window or in the ring.
func TestReadyByOneByte(t *testing.T) {
	p := script(t, "a never 9", "expect 3", "on \"x\" b", "timeout b", "label b", "expect 9", "on \"b\" c", "label c", "expect 9")
	d := begun(t, plain, p, 0)
	d.Put("b")
	does(t, d, 0, api.Step{What: api.WLook, N: 1})
	does(t, d, 3, api.Step{Tick: 3, What: api.WTimeout})
	if d.Waits() != 0 || !d.Ready(3) || d.Price() != 2 {
		t.Error(told(d))
	}
	does(t, d, 3, api.Step{Tick: 3, At: 1, What: api.WMatch, N: 1})
	idle(t, d, 3)
	d.Put("z")
	does(t, d, 3, api.Step{Tick: 3, At: 2, What: api.WLook, N: 1})
}

// P22.3: Put, Eof, Take, Cut, while it runs and behind its end.
func TestPutEofTakeCut(t *testing.T) {
	d := begun(t, plain, script(t, "a 99 0", "send \"hello\"", "done"), 0)
	if d.Put("ab") != 2 || d.Put("cde") != 2 || d.Put("x") != 0 || d.Room() != 0 || d.Waits() != 4 || d.Ended() {
		t.Error("Put")
	}
	if !d.Eof() || d.Eof() || !d.Ended() || d.Put("x") != 0 || d.Room() != 0 {
		t.Error("Eof")
	}
	if d.Take(3) != "" {
		t.Error("nothing laid out")
	}
	does(t, d, 1, api.Step{Tick: 1, What: api.WLoad, N: 3})
	if d.Pending() != "hel" || d.Take(-1) != "" || d.Take(2) != "he" || d.Pending() != "l" || d.Take(9) != "l" || d.Take(9) != "" {
		t.Error("Take")
	}
	if d.Next() != 99 {
		t.Error(d.Next())
	}
	d.Cut(50)
	d.Cut(60)
	if d.Next() != 50 {
		t.Error("Cut", d.Next())
	}
	does(t, d, 50, api.Step{Tick: 50, What: api.WDrained, Status: api.SDrained})
	ahead := told(d)
	if d.Put("x") != 0 || d.Eof() || d.Take(9) != "" {
		t.Error("behind its end")
	}
	d.Cut(3)
	if told(d) != ahead || ahead != (stands{status: api.SDrained, next: never, ended: true}) {
		t.Error("behind its end", told(d))
	}
	idle(t, d, never)
	e := begun(t, plain, script(t, "a 99 0", "done"), 0)
	does(t, e, 0, api.Step{What: api.WDone, Status: api.SDone})
	if e.Eof() || e.Ended() || e.Put("x") != 0 || e.Room() != 0 {
		t.Error("behind its end")
	}
}

// P22.4: Ready, Price, Next.
func TestReady(t *testing.T) {
	// At an op that sends it is ready as long as nothing is laid out.
	d := begun(t, plain, script(t, "a 99 9", "send \"hello\"", "expect 5", "pause 5", "goto b", "label b"), 0)
	if d.Price() != 4 || !d.Ready(0) {
		t.Error(told(d))
	}
	d.Put("zz")
	does(t, d, 0, api.Step{What: api.WLoad, N: 3})
	if d.Ready(98) || d.Price() != 3 {
		t.Error(told(d))
	}
	d.Take(2)
	idle(t, d, 98)
	d.Take(1)
	does(t, d, 0, api.Step{What: api.WLoad, N: 2})
	d.Take(2)
	if d.Price() != 1 {
		t.Error(told(d))
	}
	does(t, d, 0, api.Step{What: api.WSent, N: 5})
	// At an op that expects by fresh bytes, bytes that wait, the end of file, or its time.
	if d.Price() != 3 || !d.Ready(0) {
		t.Error(told(d))
	}
	does(t, d, 0, api.Step{At: 1, What: api.WLook, N: 2})
	if d.Ready(4) || !d.Ready(5) || d.Price() != 1 || d.Next() != 5 {
		t.Error(told(d))
	}
	d.Eof()
	if !d.Ready(0) {
		t.Error("end of file")
	}
	// At an op that pauses by its time alone, but its deadlines are over ahead of that.
	e := begun(t, plain, script(t, "a 7 9", "pause 5", "goto b", "label b"), 0)
	e.Put("abc")
	e.Eof()
	if e.Ready(4) || !e.Ready(5) || e.Price() != 1 || e.Next() != 5 {
		t.Error(told(e))
	}
	e.Cut(3)
	if e.Ready(2) || !e.Ready(3) || e.Next() != 3 {
		t.Error(told(e))
	}
	// At a goto, and at the end, always.
	f := begun(t, plain, script(t, "a 7 9", "goto b", "label b"), 0)
	if !f.Ready(-1) || f.Price() != 1 {
		t.Error(told(f))
	}
	does(t, f, 0, api.Step{What: api.WJump})
	if !f.Ready(0) || f.Price() != 1 || f.At() != 1 {
		t.Error(told(f))
	}
	does(t, f, 0, api.Step{At: 1, What: api.WDone, Status: api.SDone})
	if f.Ready(never) || f.Price() != 0 || f.Next() != never {
		t.Error(told(f))
	}
}

// P22.4, P22.5: ticks that go back count as the latest one.
func TestLatest(t *testing.T) {
	d := begun(t, plain, script(t, "a never 9", "pause 0", "pause 3", "pause 3"), 10)
	does(t, d, 4, api.Step{Tick: 10, What: api.WWoke})
	idle(t, d, 12)
	does(t, d, 20, api.Step{Tick: 20, At: 1, What: api.WWoke})
	idle(t, d, 22)
	does(t, d, 23, api.Step{Tick: 23, At: 2, What: api.WWoke})
	does(t, d, -3, api.Step{Tick: 23, At: 3, What: api.WDone, Status: api.SDone})
	// A step that was not done counts for nothing.
	e := begun(t, plain, script(t, "a never 9", "pause 5", "pause 1"), 0)
	idle(t, e, 4)
	does(t, e, 5, api.Step{Tick: 5, What: api.WWoke})
	idle(t, e, 5)
}

// P22.5: deadlines first.
func TestDeadlines(t *testing.T) {
	for _, x := range []struct {
		cut, now int64
		want     api.Step
	}{{never, 9, api.Step{Tick: 9, What: api.WDeadline, Status: api.SDeadline}}, {9, 9, api.Step{Tick: 9, What: api.WDeadline, Status: api.SDeadline}}, {8, 9, api.Step{Tick: 9, What: api.WDrained, Status: api.SDrained}}, {8, 8, api.Step{Tick: 8, What: api.WDrained, Status: api.SDrained}}, {-3, 0, api.Step{What: api.WDrained, Status: api.SDrained}}} {
		for _, line := range []string{"send \"hello\"", "expect 0", "goto b", "pause 0", "done", "fail", "label z"} {
			d := begun(t, plain, script(t, "a 9 0", line, "label b"), 0)
			d.Put("abcd")
			d.Eof()
			d.Cut(x.cut)
			does(t, d, x.now, x.want)
			if told(d) != (stands{status: x.want.Status, next: never, ended: true}) {
				t.Error(told(d))
			}
		}
	}
}

// P22.5: an op that expects.
func TestExpect(t *testing.T) {
	lines := []string{"expect 5", "on \"no\" b", "on \"ok\" c", "timeout d", "eof e", "label b", "done", "label c", "done", "label d", "done", "label e", "done"}
	make := func() *Dial { return begun(t, plain, script(t, "a 99 1", lines...), 0) }
	d := make()
	d.Put("xok")
	does(t, d, 0, api.Step{What: api.WMatch, Arm: 1, N: 3})
	if told(d) != (stands{at: 2, jumps: 1, room: 4, next: 99, price: 1}) {
		t.Error(told(d))
	}
	d = make()
	d.Put("xyzo")
	does(t, d, 3, api.Step{Tick: 3, What: api.WLook, N: 4})
	d.Put("k!")
	d.Eof()
	does(t, d, 9, api.Step{Tick: 9, What: api.WMatch, Arm: 1, N: 5})
	if d.Waits() != 1 || d.At() != 2 {
		t.Error(told(d))
	}
	// A full window is told ahead of the end of file, and of the time.
	d = make()
	d.Put("abcd")
	does(t, d, 1, api.Step{Tick: 1, What: api.WLook, N: 4})
	d.Put("efg")
	d.Eof()
	does(t, d, 9, api.Step{Tick: 9, What: api.WOverflow, N: 2, Status: api.SOverflow})
	if told(d) != (stands{status: api.SOverflow, next: never, ended: true}) {
		t.Error(told(d))
	}
	// The end of file ahead of the time.
	d = make()
	d.Put("ab")
	d.Eof()
	does(t, d, 9, api.Step{Tick: 9, What: api.WEof, N: 2})
	if told(d) != (stands{at: 4, jumps: 1, window: "ab", ended: true, next: 99, price: 1}) {
		t.Error(told(d))
	}
	d = make()
	d.Put("ab")
	does(t, d, 5, api.Step{Tick: 5, What: api.WTimeout, N: 2})
	if told(d) != (stands{at: 3, jumps: 1, room: 4, window: "ab", next: 99, price: 1}) {
		t.Error(told(d))
	}
	// Without a branch it fails, and does not jump.
	for _, what := range []int{api.WEof, api.WTimeout} {
		d = begun(t, plain, script(t, "a 99 0", "expect 5", "on \"x\" b", "label b"), 0)
		d.Put("ab")
		if what == api.WEof {
			d.Eof()
		}
		does(t, d, 5, api.Step{Tick: 5, What: what, N: 2, Status: api.SFailed})
		if d.Jumps() != 0 || d.At() != 0 || d.Window() != "" || d.Waits() != 0 {
			t.Error(told(d))
		}
	}
}

// P22.5: jumps, and too many of them.
func TestJumps(t *testing.T) {
	d := begun(t, plain, script(t, "a never 2", "label b", "expect never", "on \"x\" c", "on \"ok\" b", "label c"), 0)
	for i := range 2 {
		d.Put("ok")
		does(t, d, 0, api.Step{What: api.WMatch, Arm: 1, N: 2})
		if d.Jumps() != i+1 || d.At() != 0 {
			t.Error(told(d))
		}
	}
	d.Put("zok")
	does(t, d, 7, api.Step{Tick: 7, What: api.WLooped, Arm: 1, N: 3, Status: api.SFailed})
	if told(d) != (stands{status: api.SFailed, jumps: 2, next: never}) {
		t.Error(told(d))
	}
	for _, x := range []struct {
		lines []string
		want  api.Step
	}{{[]string{"goto b", "label b"}, api.Step{What: api.WLooped, Status: api.SFailed}}, {[]string{"expect 0", "timeout b", "label b"}, api.Step{What: api.WLooped, N: 2, Status: api.SFailed}}, {[]string{"fail"}, api.Step{What: api.WFail, Status: api.SFailed}}, {[]string{"done"}, api.Step{What: api.WDone, Status: api.SDone}}, {nil, api.Step{What: api.WDone, Status: api.SDone}}} {
		d := begun(t, plain, script(t, "a never 0", x.lines...), 0)
		d.Put("ab")
		does(t, d, 0, x.want)
		if told(d) != (stands{status: x.want.Status, next: never}) {
			t.Error(told(d))
		}
	}
	d = begun(t, plain, script(t, "a never 9", "expect 0", "eof b", "goto c", "label b", "goto b", "label c"), 0)
	d.Eof()
	does(t, d, 0, api.Step{What: api.WEof})
	if d.At() != 2 || d.Jumps() != 1 {
		t.Error(told(d))
	}
	for i := range 8 {
		does(t, d, 0, api.Step{At: 2, What: api.WJump})
		if d.Jumps() != i+2 {
			t.Error(told(d))
		}
	}
	does(t, d, 0, api.Step{At: 2, What: api.WLooped, Status: api.SFailed})
}

// P22.5: an op that sends, one by one.
func TestSend(t *testing.T) {
	d := begun(t, plain, script(t, "a never 0", "send \"hello\"", "send \"x\""), 0)
	does(t, d, 0, api.Step{What: api.WLoad, N: 3})
	if d.Pending() != "hel" || d.Take(3) != "hel" {
		t.Error(told(d))
	}
	does(t, d, 0, api.Step{What: api.WLoad, N: 2})
	if d.Pending() != "lo" || d.Take(3) != "lo" {
		t.Error(told(d))
	}
	does(t, d, 0, api.Step{What: api.WSent, N: 5})
	if d.Pending() != "" || d.At() != 1 || d.Price() != 2 {
		t.Error(told(d))
	}
	does(t, d, 0, api.Step{At: 1, What: api.WLoad, N: 1})
	d.Take(1)
	does(t, d, 0, api.Step{At: 1, What: api.WSent, N: 1})
	does(t, d, 0, api.Step{At: 2, What: api.WDone, Status: api.SDone})
}

// P22.6: a nil dialogue.
func TestNil(t *testing.T) {
	var d *Dial
	d.Cut(3)
	x, ok := d.Step(0)
	if d.Put("a") != 0 || d.Eof() || d.Take(1) != "" || d.Ready(9) || x != (api.Step{}) || ok || told(d) != (stands{next: never}) {
		t.Error(told(d))
	}
	zero := new(Dial)
	zero.Put("a")
	zero.Take(3)
	zero.Step(5)
}
