package arms

import (
	"math/rand"
	"strings"
	"testing"

	"repartee/api"
	"repartee/glob"
	"repartee/lang"
)

// made is arms of patterns that are right.
func made(t *testing.T, p ...string) *Arms {
	a, n, e := New(p...)
	if a == nil || n != 0 || e != api.OK || a.Len() != len(p) || a.Fed() != 0 {
		t.Fatal(p, n, e)
	}
	return a
}

// P10.1: Check and New.
func TestCheckNew(t *testing.T) {
	for _, x := range []struct {
		p  string
		at int
		e  api.Errno
	}{{"ok", 0, api.OK}, {"*a", 0, api.OK}, {"", 0, api.ErrEmpty}, {"**", 0, api.ErrEmpty}, {"ab]", 2, api.ErrForm}, {"ab%", 3, api.ErrEnd}, {"a[b-a]", 4, api.ErrRange}, {strings.Repeat("a", 61), 60, api.ErrLong}, {strings.Repeat("*", 61), 60, api.ErrLong}, {"[^\x00-\xff]", 0, api.OK}} {
		if at, e := Check(x.p); at != x.at || e != x.e {
			t.Error(x.p, at, e)
		}
	}
	made(t)
	made(t, "a", "a")
	eight := strings.Split("a b c d e f g h", " ")
	made(t, eight...)
	for _, x := range []struct {
		p  []string
		at int
		e  api.Errno
	}{{append(eight, "i"), 0, api.ErrLong}, {append(eight, "]"), 0, api.ErrLong}, {[]string{"a", "", "]"}, 1, api.ErrEmpty}, {[]string{"a", "b", "xx]"}, 2, api.ErrForm}, {[]string{"%", ""}, 0, api.ErrEnd}} {
		if a, at, e := New(x.p...); a != nil || at != x.at || e != x.e {
			t.Error(x.p, at, e)
		}
	}
}

// P10.2: Feed, Reset, Fed, Len.
func TestFeed(t *testing.T) {
	a := made(t, "ok", "o")
	if arm, ok := a.Feed('o'); arm != 1 || !ok || a.Fed() != 1 {
		t.Error("o", arm, ok)
	}
	if arm, ok := a.Feed('k'); arm != 0 || !ok || a.Fed() != 2 {
		t.Error("k", arm, ok)
	}
	if arm, ok := a.Feed('k'); arm != 0 || ok {
		t.Error("kk", arm, ok)
	}
	a.Feed('o')
	a.Reset()
	if arm, ok := a.Feed('k'); arm != 0 || ok || a.Fed() != 1 || a.Len() != 2 {
		t.Error("Reset", arm, ok)
	}
	random := rand.New(rand.NewSource(10))
	for range 500 {
		ps, ls := patterns(random)
		a := made(t, ps...)
		var s []byte
		for range 8 {
			s = append(s, "ab"[random.Intn(2)])
			want, wok := 0, false
			for i := len(ls) - 1; i >= 0; i-- {
				if len(lang.Starts(ls[i], string(s), len(s))) > 0 {
					want, wok = i, true
				}
			}
			if arm, ok := a.Feed(s[len(s)-1]); arm != want || ok != wok || a.Fed() != len(s) {
				t.Fatal(ps, string(s), arm, ok)
			}
		}
	}
	var none *Arms
	arm, ok := none.Feed('a')
	x, n, found := none.Find("a")
	none.Reset()
	if arm != 0 || ok || x != 0 || n != 0 || found || none.Fed() != 0 || none.Len() != 0 {
		t.Error("nil")
	}
}

// patterns are some patterns that may be waited for.
func patterns(random *rand.Rand) (ps []string, ls [][]api.Item) {
	for range random.Intn(5) {
		var p strings.Builder
		for range 1 + random.Intn(3) {
			p.WriteByte("*?ab"[random.Intn(4)])
		}
		if _, e := Check(p.String()); e == api.OK {
			l, _, _ := glob.Parse(p.String())
			ps, ls = append(ps, p.String()), append(ls, l)
		}
	}
	return ps, ls
}

// P10.3 and P10.4: Find, by itself; the least end, the first of those that end there; what is found is found in more.
func TestFind(t *testing.T) {
	random := rand.New(rand.NewSource(11))
	for range 3000 {
		ps, ls := patterns(random)
		a := made(t, ps...)
		var s strings.Builder
		for range random.Intn(7) {
			s.WriteByte("ab"[random.Intn(2)])
		}
		w := s.String()
		arm, n, ok := 0, 0, false
		for i, l := range ls {
			if _, to, found := lang.First(l, w); found && (!ok || to < n) {
				arm, n, ok = i, to, true
			}
		}
		a.Feed('a')
		if x, m, found := a.Find(w); x != arm || m != n || found != ok {
			t.Fatal(ps, w, x, m, found)
		}
		if x, m, found := a.Find(w + "ba"); ok && (x != arm || m != n || !found) {
			t.Fatal("in more", ps, w, x, m, found)
		}
		b := made(t, ps...)
		b.Feed('a')
		xa, oka := a.Feed('b')
		xb, okb := b.Feed('b')
		if xa != xb || oka != okb || a.Fed() != 2 {
			t.Fatal("what was fed was changed", ps, w)
		}
	}
	a := made(t, "zz", "k", "ok")
	if arm, n, ok := a.Find("xoky"); arm != 1 || n != 3 || !ok {
		t.Error(arm, n, ok)
	}
	if arm, n, ok := a.Find("z"); arm != 0 || n != 0 || ok {
		t.Error(arm, n, ok)
	}
}
