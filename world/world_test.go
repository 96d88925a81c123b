package world

import (
	"slices"
	"strings"
	"testing"

	"repartee/api"
)

// full is a round of all that may be.
var full = api.Round{Ticks: 2, Opens: []int{0, 63}, Offers: []api.Offer{{Id: 0, Bytes: "ok\n"}, {Id: 4095, Eof: true}, {Id: 1}}, Reports: []api.Report{{Id: 3, Read: true}, {Id: 2, Write: true, Accept: 4096}, {Id: 4095, Read: true, Write: true}}, Drain: 4, Abort: true}

// text is the lines of full.
const text = "tick 2\nopen 0\nopen 63\noffer 0 \"ok\\n\"\nclose 4095 \"\"\noffer 1 \"\"\nread 3\nwrite 2 4096\nboth 4095 0\ndrain 3\nabort\n"

// but is full, changed.
func but(change func(r *api.Round)) api.Round {
	r := full
	r.Opens, r.Offers, r.Reports = slices.Clone(r.Opens), slices.Clone(r.Offers), slices.Clone(r.Reports)
	change(&r)
	return r
}

// bad are rounds that are not good.
func bad() []api.Round {
	var l []api.Round
	for _, change := range []func(r *api.Round){
		func(r *api.Round) { r.Ticks = -1 }, func(r *api.Round) { r.Ticks = api.MaxTicks + 1 }, func(r *api.Round) { r.Drain = -1 }, func(r *api.Round) { r.Drain = api.MaxTicks + 2 },
		func(r *api.Round) { r.Opens[1] = -1 }, func(r *api.Round) { r.Opens[1] = 64 },
		func(r *api.Round) { r.Offers[2].Id = -1 }, func(r *api.Round) { r.Offers[2].Id = 4096 }, func(r *api.Round) { r.Offers[2].Bytes = strings.Repeat("x", 257) },
		func(r *api.Round) { r.Reports[2].Id = -1 }, func(r *api.Round) { r.Reports[2].Id = 4096 }, func(r *api.Round) { r.Reports[2].Accept = -1 }, func(r *api.Round) { r.Reports[2].Accept = 4097 }, func(r *api.Round) { r.Reports[0].Accept = 1 }, func(r *api.Round) { r.Reports[0].Read = false },
	} {
		l = append(l, but(change))
	}
	return l
}

// P32.1: Good and Same.
func TestGoodSame(t *testing.T) {
	for i, r := range []api.Round{{}, full, {Ticks: api.MaxTicks, Drain: api.MaxTicks + 1}, {Offers: []api.Offer{{Bytes: strings.Repeat("x", 256)}}}} {
		if !Good(r) || !Same(r, r) {
			t.Error(i)
		}
	}
	for i, r := range bad() {
		if Good(r) {
			t.Error(i, r)
		}
	}
	if !Same(full, but(func(r *api.Round) {})) || !Same(api.Round{}, api.Round{Opens: []int{}, Offers: []api.Offer{}, Reports: []api.Report{}}) {
		t.Error("Same")
	}
	for i, change := range []func(r *api.Round){
		func(r *api.Round) { r.Ticks++ }, func(r *api.Round) { r.Drain++ }, func(r *api.Round) { r.Abort = false }, func(r *api.Round) { r.Opens = r.Opens[1:] }, func(r *api.Round) { r.Opens[1] = 4 }, func(r *api.Round) { r.Offers[0].Bytes = "" }, func(r *api.Round) { r.Offers[0].Eof = true }, func(r *api.Round) { r.Offers[0].Id++ }, func(r *api.Round) { r.Reports[1].Accept-- }, func(r *api.Round) { r.Reports[1].Read = true }, func(r *api.Round) { r.Reports = nil },
	} {
		if Same(full, but(change)) {
			t.Error(i)
		}
	}
}

// P32.2: Print and Write.
func TestPrintWrite(t *testing.T) {
	if s, e := Print(full); s != text || e != api.OK {
		t.Error(s, e)
	}
	if s, e := Print(api.Round{}); s != "tick 0\n" || e != api.OK {
		t.Error(s, e)
	}
	if s, e := Print(api.Round{Drain: 1}); s != "tick 0\ndrain 0\n" || e != api.OK {
		t.Error(s, e)
	}
	for _, r := range bad() {
		if s, e := Print(r); s != "" || e != api.ErrForm {
			t.Error(r, s, e)
		}
		if s, e := Write([]api.Round{full, r}); s != "" || e != api.ErrForm {
			t.Error(r, s, e)
		}
	}
	if s, e := Write([]api.Round{full, {}, full}); s != text+"tick 0\n"+text || e != api.OK {
		t.Error(s, e)
	}
	if s, e := Write(nil); s != "" || e != api.OK {
		t.Error(s, e)
	}
	if s, e := Write(make([]api.Round, 10000)); s != strings.Repeat("tick 0\n", 10000) || e != api.OK {
		t.Error(len(s), e)
	}
	if s, e := Write(append(make([]api.Round, 10000), bad()[0])); s != "" || e != api.ErrLong {
		t.Error(len(s), e)
	}
}

// P32.3: Read.
func TestRead(t *testing.T) {
	for s, want := range map[string][]api.Round{
		"": nil, "# x\n\n": nil, text: {full}, text + "\n#\n" + text[:len(text)-1]: {full, full},
		"tick 1\nabort\nread 3\ndrain 0\nread 2\nopen 1\n# x\noffer 3 \"\\x41\"\nopen 0\ntick 0": {{Ticks: 1, Opens: []int{1, 0}, Offers: []api.Offer{{Id: 3, Bytes: "A"}}, Reports: []api.Report{{Id: 3, Read: true}, {Id: 2, Read: true}}, Drain: 1, Abort: true}, {}},
		"tick 1000000000000\ndrain 1000000000000":                                                {{Ticks: api.MaxTicks, Drain: api.MaxTicks + 1}},
		"tick 0\nabort\ntick 0\nabort":                                                           {{Abort: true}, {Abort: true}},
	} {
		if l, spot, e := Read(s); !slices.EqualFunc(l, want, Same) || spot != (api.Spot{}) || e != api.OK {
			t.Errorf("%q: %v %v %d", s, l, spot, e)
		}
	}
	const head = "tick 0\n"
	for _, x := range []struct {
		s         string
		line, col int
		e         api.Errno
	}{
		{strings.Repeat("#", 40001), 0, 0, api.ErrLong}, {strings.Repeat("#", 40000), 0, 0, api.OK}, {strings.Repeat("tick", 10001), 0, 0, api.ErrLong},
		{" tick 0", 1, 1, api.ErrForm}, {"tick  0", 1, 6, api.ErrForm}, {head + "offer 0 \"", 2, 10, api.ErrEnd}, {head + "offer 0 \"\\q\"", 2, 11, api.ErrForm}, {head + strings.Repeat("x", 1300), 2, 1201, api.ErrLong},
		{"\"tick\" 0", 1, 1, api.ErrWord}, {"foo", 1, 1, api.ErrWord}, {"#\n\nTick 0", 3, 1, api.ErrWord}, {"foo 0", 1, 1, api.ErrWord}, {"open 0", 1, 1, api.ErrState}, {"abort x", 1, 1, api.ErrState}, {"drain x", 1, 1, api.ErrState}, {head + "drain 1\ndrain 2", 3, 1, api.ErrDup}, {head + "drain 0\ndrain", 3, 1, api.ErrDup}, {head + "abort\nabort x", 3, 1, api.ErrDup}, {head + "abort x", 2, 7, api.ErrForm},
		{"tick", 1, 5, api.ErrEnd}, {"tick ", 1, 6, api.ErrEnd}, {"tick x", 1, 6, api.ErrForm}, {"tick 01", 1, 6, api.ErrForm}, {"tick -1", 1, 6, api.ErrForm}, {"tick 1000000000001", 1, 6, api.ErrRange}, {"tick never", 1, 6, api.ErrRange}, {"tick \"0\"", 1, 6, api.ErrForm}, {"tick 0 0", 1, 8, api.ErrForm}, {"tick x 0", 1, 6, api.ErrForm},
		{head + "open", 2, 5, api.ErrEnd}, {head + "open 64", 2, 6, api.ErrRange}, {head + "open 0 0", 2, 8, api.ErrForm}, {head + "open \"0\"", 2, 6, api.ErrForm},
		{head + "offer", 2, 6, api.ErrEnd}, {head + "offer 0", 2, 8, api.ErrEnd}, {head + "offer 4096 x", 2, 7, api.ErrRange}, {head + "offer \"0\"", 2, 7, api.ErrForm}, {head + "offer 0 x", 2, 9, api.ErrForm}, {head + "offer 0 \"" + strings.Repeat("x", 257) + "\"", 2, 9, api.ErrLong}, {head + "close 0 \"" + strings.Repeat("x", 257) + "\" x", 2, 9, api.ErrLong}, {head + "offer 0 \"\" \"\"", 2, 12, api.ErrForm}, {head + "close 0 \"" + strings.Repeat("x", 256) + "\"", 0, 0, api.OK},
		{head + "read", 2, 5, api.ErrEnd}, {head + "read 4096", 2, 6, api.ErrRange}, {head + "read 0 0", 2, 8, api.ErrForm}, {head + "write 0", 2, 8, api.ErrEnd}, {head + "write 0 4097", 2, 9, api.ErrRange}, {head + "write 4096 4097", 2, 7, api.ErrRange}, {head + "both 0 never", 2, 8, api.ErrRange}, {head + "both 0 4096 0", 2, 13, api.ErrForm}, {head + "both 0 \"1\"", 2, 8, api.ErrForm},
		{head + "drain", 2, 6, api.ErrEnd}, {head + "drain 1000000000001", 2, 7, api.ErrRange}, {head + "drain never", 2, 7, api.ErrRange}, {head + "drain 1 1", 2, 9, api.ErrForm}, {head + "foo", 2, 1, api.ErrWord},
	} {
		l, spot, e := Read(x.s)
		if spot != (api.Spot{Line: x.line, Col: x.col}) || e != x.e || e != api.OK && len(l) != 0 {
			t.Errorf("%q: %v %v %d, want %d:%d %d", x.s, len(l), spot, e, x.line, x.col, x.e)
		}
	}
}

// P32.3: as many rounds as a text has room for; P32.4: Read of Write is the rounds.
func TestLaws(t *testing.T) {
	l := slices.Repeat([]api.Round{{Ticks: 7}, full, {Drain: 1}, {Abort: true}}, 40)
	s, e := Write(l)
	got, spot, f := Read(s)
	if e != api.OK || f != api.OK || spot != (api.Spot{}) || !slices.EqualFunc(got, l, Same) {
		t.Error(spot, e, f)
	}
	if got, _, e := Read(strings.Repeat("tick 0\n", 5714)); len(got) != 5714 || e != api.OK {
		t.Error(len(got), e)
	}
}
