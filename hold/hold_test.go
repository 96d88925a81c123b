package hold

import (
	"math/rand"
	"strings"
	"testing"

	"repartee/api"
	"repartee/arms"
	"repartee/ring"
)

// filled is a ring with bytes.
func filled(s string) *ring.Ring {
	r := ring.New(4096)
	r.Put(s)
	return r
}

// waiting is a window that waits for patterns.
func waiting(t *testing.T, win int, p ...string) *Hold {
	h := New(win)
	if e := h.Begin(p...); e != api.OK {
		t.Fatal(p, e)
	}
	return h
}

// P19.1: New, Begin, Text, Len, Fresh.
func TestBegin(t *testing.T) {
	for win, most := range map[int]int{-1: 1, 0: 1, 1: 1, 3: 3, 4096: 4096, 5000: 4096} {
		h := New(win)
		if h.Len() != 0 || h.Text() != "" || h.Fresh() != 0 {
			t.Error(win)
		}
		r := ring.New(4096)
		r.Put(strings.Repeat("x", 4096))
		if f := h.Look(r); f.Read != most || f.Full != (most < 4096) || h.Len() != most {
			t.Error(win, f)
		}
	}
	h := waiting(t, 9, "zz")
	h.Look(filled("abz"))
	if h.Text() != "abz" || h.Len() != 3 || h.Fresh() != 0 {
		t.Error("looked")
	}
	for _, x := range []struct {
		p []string
		e api.Errno
	}{{[]string{"a", "]"}, api.ErrForm}, {[]string{""}, api.ErrEmpty}, {[]string{"%"}, api.ErrEnd}, {make([]string, 9), api.ErrLong}, {[]string{"[b-a]"}, api.ErrRange}} {
		if e := h.Begin(x.p...); e != x.e || h.Fresh() != 0 {
			t.Error(x.p, e)
		}
	}
	if f := h.Look(filled("zq")); f != (Found{Match: true, Gone: 4, Read: 1}) || h.Text() != "" {
		t.Error("a Begin that was refused changed something", f)
	}
	h.Look(filled("q"))
	p := []string{"q"}
	if e := h.Begin(p...); e != api.OK || h.Fresh() != 1 || h.Text() != "q" {
		t.Error("Begin", e)
	}
	p[0] = "zzz"
	if f := h.Copy().Look(nil); f != (Found{Match: true, Gone: 1}) {
		t.Error("a list was kept", f)
	}
}

// P19.2: Look and Copy, and nil ones.
func TestLook(t *testing.T) {
	h, r := waiting(t, 4, "ok"), filled("xok!")
	if f := h.Look(r); f != (Found{Match: true, Gone: 3, Read: 3}) || r.Peek(0, 9) != "!" || h.Len() != 0 {
		t.Error("example", f)
	}
	h, r = waiting(t, 4, "ok"), filled("abcde")
	for _, read := range []int{4, 0, 0} {
		if f := h.Look(r); f != (Found{Full: true, Read: read}) || r.Peek(0, 9) != "e" || h.Text() != "abcd" || h.Fresh() != 0 {
			t.Error("full", f)
		}
	}
	h, r = waiting(t, 4, "ok"), filled("abcd")
	if f := h.Look(r); f != (Found{Read: 4}) || h.Len() != 4 {
		t.Error("just full", f)
	}
	h, r = waiting(t, 4, "zz", "d"), filled("abcde")
	if f := h.Look(r); f != (Found{Match: true, Arm: 1, Gone: 4, Read: 4}) || r.Len() != 1 {
		t.Error("found as it is full", f)
	}
	h = waiting(t, 9, "z")
	h.Look(filled("okok"))
	h.Begin("k")
	r = filled("k")
	for _, f := range []Found{{Match: true, Gone: 2}, {Match: true, Gone: 2}, {Match: true, Gone: 1, Read: 1}, {}} {
		if got := h.Look(r); got != f {
			t.Error("one by one", got, f)
		}
	}
	h = waiting(t, 9, "*aa")
	if f := h.Look(filled("a")); f != (Found{Read: 1}) || h.Fresh() != 0 {
		t.Error(f)
	}
	if f := h.Look(filled("aa")); f != (Found{Match: true, Gone: 2, Read: 1}) {
		t.Error(f)
	}
	if f := h.Look(filled("a")); f != (Found{Read: 1}) {
		t.Error("what went counts no more", f)
	}
	if f := h.Look(nil); f != (Found{}) || h.Text() != "a" {
		t.Error("a nil ring", f)
	}
	var none *Hold
	r = filled("a")
	if none.Begin("a") != api.ErrArg || none.Look(r) != (Found{}) || r.Len() != 1 || none.Text() != "" || none.Fresh() != 0 || none.Len() != 0 || none.Copy() != nil {
		t.Error("nil")
	}
	if f := New(3).Look(filled("ab")); f != (Found{Read: 2}) {
		t.Error("waits for none", f)
	}
	if f := new(Hold).Look(filled("ab")); f.Match {
		t.Error("zero", f)
	}
}

// P19.2: a copy goes on as its window would, and shares nothing with it.
func TestCopy(t *testing.T) {
	random := rand.New(rand.NewSource(19))
	for range 500 {
		h := waiting(t, 1+random.Intn(6), "ab", "*ba", "bbb")
		for range 4 {
			h.Look(filled(some(random, 4)))
			if random.Intn(3) == 0 {
				h.Begin("aab", "bb")
			}
			c, d := h.Copy(), h.Copy()
			s := some(random, 5)
			if c.Text() != h.Text() || c.Fresh() != h.Fresh() {
				t.Fatal("Copy")
			}
			f := c.Look(filled(s))
			d.Begin("x")
			d.Look(filled("xyz"))
			if g := h.Look(filled(s)); g != f || c.Text() != h.Text() || c.Fresh() != h.Fresh() {
				t.Fatal("Copy goes on otherwise", f, g)
			}
		}
	}
	if c := New(5).Copy(); c.Look(filled("ab")) != (Found{Read: 2}) {
		t.Error("waits for none")
	}
}

// some is bytes by chance.
func some(random *rand.Rand, most int) string {
	var s strings.Builder
	for range random.Intn(most + 1) {
		s.WriteByte("ab"[random.Intn(2)])
	}
	return s.String()
}

// P19.3: what went and what is held is what was read; a match is where arms.Find tells; however the bytes come.
func TestLaws(t *testing.T) {
	random := rand.New(rand.NewSource(20))
	for range 2000 {
		win := 1 + random.Intn(7)
		p := []string{"aab", "b*b", "ba?"}[:1+random.Intn(3)]
		h, whole := waiting(t, win, p...), waiting(t, win, p...)
		a, _, _ := arms.New(p...)
		r, all := ring.New(4096), filled("")
		var read, gone string
		for range 6 {
			s := some(random, 5)
			r.Put(s)
			all.Put(s)
			ahead, waits := h.Text(), r.Peek(0, 4096)
			arm, n, ok := a.Find(ahead + waits)
			ok = ok && n <= win
			f := h.Look(r)
			if f.Match != ok || ok && (f.Arm != arm || f.Gone != n) || !ok && f.Full != (len(ahead+waits) > win) {
				t.Fatal(p, win, ahead, waits, f)
			}
			read += waits[:f.Read]
			gone += (ahead + waits)[:f.Gone]
			if gone+h.Text() != read || f.Match && h.Fresh() != h.Len() {
				t.Fatal("lost", gone, h.Text(), read)
			}
			if f.Full {
				break
			}
		}
		for h.Look(r).Match {
		}
		for whole.Look(all).Match {
		}
		if whole.Text() != h.Text() || all.Len() != r.Len() {
			t.Fatal("however the bytes come", whole.Text(), h.Text())
		}
	}
}
