package lang

import (
	"math/rand"
	"slices"
	"testing"

	"repartee/api"
	"repartee/class"
	"repartee/glob"
)

// of is the pattern of a text.
func of(p string) []api.Item {
	l, _, e := glob.Parse(p)
	if e != api.OK {
		panic(p)
	}
	return l
}

// cut tells by the words of the document alone whether s can be cut into the pieces of l.
func cut(l []api.Item, s string) bool {
	if len(l) == 0 {
		return s == ""
	}
	if !l[0].Run {
		return s != "" && class.Has(l[0].Set, s[0]) && cut(l[1:], s[1:])
	}
	for n := range len(s) + 1 {
		if cut(l[1:], s[n:]) {
			return true
		}
	}
	return false
}

// texts are all texts of a and b of up to n bytes.
func texts(n int) []string {
	l := []string{""}
	for i := 0; i < len(l); i++ {
		if len(l[i]) < n {
			l = append(l, l[i]+"a", l[i]+"b")
		}
	}
	return l
}

// patterns are patterns of up to four items over a and b.
func patterns() []string {
	items := []string{"*", "?", "a", "b", "[^\x00-\xff]"}
	l := []string{""}
	for i := 0; i < len(l); i++ {
		if len(of(l[i])) < 4 {
			for _, x := range items {
				l = append(l, l[i]+x)
			}
		}
	}
	return l
}

// P8.1: Matches, Least, Empty, Void.
func TestMatches(t *testing.T) {
	ss := texts(5)
	for _, p := range patterns() {
		l := of(p)
		some, least := false, 0
		for _, x := range l {
			if !x.Run {
				least++
			}
		}
		for _, s := range ss {
			want := cut(l, s)
			some = some || want
			if Matches(l, s) != want {
				t.Errorf("%q %q", p, s)
			}
			if want && len(s) < least {
				t.Errorf("least %q %q", p, s)
			}
		}
		if Least(l) != least || Empty(l) != cut(l, "") || Void(l) == some {
			t.Errorf("%q %d %v %v", p, Least(l), Empty(l), Void(l))
		}
	}
	if Matches(of("?*"), "") || !Matches(of("?*"), "\xff") || !Matches(nil, "") || Matches(nil, "a") || !Empty(nil) || Void(nil) || Least(nil) != 0 {
		t.Error("edges")
	}
	if !Void(of("a*[^\x00-\xff]")) || Void(of("*")) {
		t.Error("Void")
	}
}

// P8.2: Ends, Starts, First.
func TestOccurs(t *testing.T) {
	ss := texts(4)
	for _, p := range patterns() {
		l := of(p)
		for _, w := range ss {
			var ends []int
			from, to, ok := 0, 0, false
			for j := range len(w) + 1 {
				var starts []int
				for i := range j + 1 {
					if cut(l, w[i:j]) {
						starts = append(starts, i)
					}
				}
				if !slices.Equal(Starts(l, w, j), starts) {
					t.Fatalf("Starts %q %q %d: %v %v", p, w, j, Starts(l, w, j), starts)
				}
				if len(starts) > 0 {
					ends = append(ends, j)
					if !ok {
						from, to, ok = starts[0], j, true
					}
				}
			}
			if !slices.Equal(Ends(l, w), ends) {
				t.Fatalf("Ends %q %q: %v %v", p, w, Ends(l, w), ends)
			}
			if f, e, o := First(l, w); f != from || e != to || o != ok {
				t.Fatalf("First %q %q: %d %d %v", p, w, f, e, o)
			}
			if len(Starts(l, w, -1)) != 0 || len(Starts(l, w, len(w)+1)) != 0 || len(Starts(l, w, 1<<60)) != 0 {
				t.Fatal("no such place")
			}
		}
	}
	for _, x := range []struct {
		p, w     string
		from, to int
		ok       bool
	}{{"a*b", "xaab", 1, 4, true}, {"a*", "xaab", 1, 2, true}, {"", "abc", 0, 0, true}, {"*", "abc", 0, 0, true}, {"*c", "abc", 0, 3, true}, {"z", "abc", 0, 0, false}, {"a", "", 0, 0, false}} {
		if from, to, ok := First(of(x.p), x.w); from != x.from || to != x.to || ok != x.ok {
			t.Error(x, from, to, ok)
		}
	}
}

// P8.3: patterns one behind the other; more bytes; no runs.
func TestLaws(t *testing.T) {
	random := rand.New(rand.NewSource(8))
	ps, ss := patterns(), texts(5)
	for range 3000 {
		a, b, s := of(ps[random.Intn(len(ps))]), of(ps[random.Intn(len(ps))]), ss[random.Intn(len(ss))]
		both := append(slices.Clone(a), b...)
		want := false
		for i := range len(s) + 1 {
			want = want || Matches(a, s[:i]) && Matches(b, s[i:])
		}
		if Matches(both, s) != want {
			t.Fatal(a, b, s)
		}
		if from, to, ok := First(a, s); ok {
			if f, e, o := First(a, s+"ab"); f != from || e != to || !o {
				t.Fatal("more bytes", a, s)
			}
		}
		if !slices.ContainsFunc(a, func(x api.Item) bool { return x.Run }) && Matches(a, s) && len(s) != Least(a) {
			t.Fatal("without runs", a, s)
		}
	}
	l := of("a*b")
	kept := slices.Clone(l)
	Starts(l, "ab", 2)
	First(l, "ab")
	if !slices.Equal(l, kept) {
		t.Error("a list that was handed in was changed")
	}
}
