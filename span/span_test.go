package span

import (
	"math/rand"
	"slices"
	"strings"
	"testing"

	"repartee/api"
	"repartee/class"
	"repartee/glob"
	"repartee/lang"
)

// of is the pattern of a text.
func of(p string) []api.Item {
	l, _, e := glob.Parse(p)
	if e != api.OK {
		panic(p)
	}
	return l
}

// turned is a text, its last byte first.
func turned(s string) string {
	b := []byte(s)
	slices.Reverse(b)
	return string(b)
}

// bad is a list that is no pattern.
var bad = []api.Item{{Set: class.Of("a")}, {Run: true, Set: class.Of("a")}}

// P11.1: Back and From.
func TestBackFrom(t *testing.T) {
	l := of("a*bc")
	kept := slices.Clone(l)
	if !slices.Equal(Back(l), of("cb*a")) || len(Back(nil)) != 0 || !slices.Equal(l, kept) || !slices.Equal(Back(bad), []api.Item{bad[1], bad[0]}) {
		t.Error("Back")
	}
	for _, x := range []struct {
		p, w string
		to   int
		from int
		ok   bool
	}{{"a*", "xaab", 4, 1, true}, {"a*", "xaab", 1, 0, false}, {"a", "xaab", 3, 2, true}, {"aa", "aaa", 3, 1, true}, {"*a", "xaab", 3, 0, true}, {"a", "a", -1, 0, false}, {"a", "a", 2, 0, false}, {"a", "a", 1 << 60, 0, false}, {"", "a", 1, 0, false}, {"*", "a", 1, 0, false}, {"a", "a", 0, 0, false}, {"a", "", 0, 0, false}} {
		if from, ok := From(of(x.p), x.w, x.to); from != x.from || ok != x.ok {
			t.Error(x, from, ok)
		}
	}
	if from, ok := From(bad, "aa", 2); from != 0 || ok {
		t.Error("no table", from, ok)
	}
}

// P11.2: Find and Text.
func TestFindText(t *testing.T) {
	for _, x := range []struct {
		p, w     string
		from, to int
		ok       bool
		text     string
	}{{"a*b", "xaab", 1, 4, true, "aab"}, {"a*", "xaab", 1, 2, true, "a"}, {"b", "xaab", 3, 4, true, "b"}, {"z", "xaab", 0, 0, false, ""}, {"", "xaab", 0, 0, false, ""}, {"*", "xaab", 0, 0, false, ""}, {"a", "", 0, 0, false, ""}} {
		if from, to, ok := Find(of(x.p), x.w); from != x.from || to != x.to || ok != x.ok {
			t.Error(x, from, to, ok)
		}
		if s, ok := Text(x.p, x.w); s != x.text || ok != x.ok {
			t.Error(x, s, ok)
		}
	}
	if from, to, ok := Find(bad, "aa"); from != 0 || to != 0 || ok {
		t.Error("no table")
	}
	for _, p := range []string{"]", "%", "[", "[b-a]", strings.Repeat("a", 61)} {
		if s, ok := Text(p, strings.Repeat("a", 70)); s != "" || ok {
			t.Error(p, s, ok)
		}
	}
}

// P11.3: Back matches what is turned; what is found lies where lang tells.
func TestLaws(t *testing.T) {
	random := rand.New(rand.NewSource(11))
	for range 5000 {
		var p, s strings.Builder
		for range random.Intn(6) {
			p.WriteByte("*?aab"[random.Intn(5)])
		}
		for range random.Intn(8) {
			s.WriteByte("ab"[random.Intn(2)])
		}
		l, w := of(p.String()), s.String()
		if lang.Matches(Back(l), turned(w)) != lang.Matches(l, w) {
			t.Fatal("Back", p.String(), w)
		}
		if lang.Empty(l) {
			continue
		}
		from, to, ok := lang.First(l, w)
		if f, e, o := Find(l, w); f != from || e != to || o != ok {
			t.Fatal("Find", p.String(), w, f, e, o)
		}
		for to := range len(w) + 1 {
			starts := lang.Starts(l, w, to)
			from, ok := From(l, w, to)
			if ok != (len(starts) > 0) || ok && from != starts[0] {
				t.Fatal("From", p.String(), w, to, from, ok)
			}
		}
	}
}
