package table

import (
	"math/rand"
	"strings"
	"testing"

	"repartee/api"
	"repartee/class"
	"repartee/glob"
	"repartee/lang"
)

// of is the pattern of a text.
func of(p string) []api.Item {
	l, _, e := glob.Parse(p)
	if e != api.OK {
		panic(p)
	}
	return l
}

// compiled is the table of a text's pattern.
func compiled(t *testing.T, p string) *Table {
	x, e := Compile(of(p))
	if x == nil || e != api.OK {
		t.Fatal(p, e)
	}
	return x
}

// P9.1: Compile and Len.
func TestCompile(t *testing.T) {
	for _, p := range []string{"", "*", "**", strings.Repeat("*", 60)} {
		if x, e := Compile(of(p)); x != nil || e != api.ErrEmpty {
			t.Error(p, e)
		}
	}
	for _, l := range [][]api.Item{make([]api.Item, 61), {{Run: true, Set: class.Of("a")}}, {{Set: class.Of("a")}, {Run: true, Set: class.Of("a")}}} {
		if x, e := Compile(l); x != nil || e != api.ErrForm {
			t.Error(l, e)
		}
	}
	for p, n := range map[string]int{"a": 1, "a*b": 3, "*?": 2, "[^\x00-\xff]": 1, strings.Repeat("*", 59) + "a": 60, strings.Repeat("a", 60): 60} {
		if compiled(t, p).Len() != n {
			t.Error(p)
		}
	}
	var none *Table
	if none.Start() != 0 || none.Step(1, 'a') != 0 || none.Seek(1, 'a') != 0 || none.Done(1<<64-1) || none.Len() != 0 {
		t.Error("nil")
	}
	new(Table).Done(1)
}

// slow is what counts in a state, by the words of the document alone.
func slow(l []api.Item, in map[int]bool) uint64 {
	var x uint64
	for k := 0; k <= len(l); k++ {
		if k > 0 && in[k-1] && l[k-1].Run {
			in[k] = true
		}
		if in[k] {
			x |= 1 << k
		}
	}
	return x
}

// members is which numbers are in a handed-in state, with what counts.
func members(l []api.Item, x uint64) map[int]bool {
	in := map[int]bool{}
	for k := 0; k <= len(l); k++ {
		in[k] = x>>k&1 == 1
	}
	slow(l, in)
	return in
}

// P9.2: states, Start, Step, Seek, Done, whatever state is handed in.
func TestStates(t *testing.T) {
	x := compiled(t, "a*b")
	if x.Start() != 1 || x.Step(1, 'a') != 6 || x.Step(6, 'x') != 6 || x.Step(6, 'b') != 14 || !x.Done(14) || x.Done(6) || x.Step(2, 'x') != 6 || x.Seek(6, 'x') != 7 || x.Step(1<<63, 'a') != 0 || x.Step(1<<64-1, 'a')>>4 != 0 {
		t.Error("example")
	}
	if y := compiled(t, "a**"); !y.Done(2) || !y.Done(4) || y.Done(1) || y.Done(1<<4) {
		t.Error("Done of what counts")
	}
	random := rand.New(rand.NewSource(9))
	for range 4000 {
		var p strings.Builder
		for range random.Intn(61) {
			p.WriteByte("**ab?"[random.Intn(5)])
		}
		l := of(p.String())
		if lang.Empty(l) {
			continue
		}
		x := compiled(t, p.String())
		state, b := random.Uint64()&random.Uint64(), "abc"[random.Intn(3)]
		in := members(l, state)
		next := map[int]bool{}
		for k, item := range l {
			if in[k] && item.Run {
				next[k] = true
			}
			if in[k] && !item.Run && class.Has(item.Set, b) {
				next[k+1] = true
			}
		}
		start := slow(l, map[int]bool{0: true})
		want := slow(l, next)
		if x.Start() != start || x.Step(state, b) != want || x.Seek(state, b) != want|start || x.Done(state) != in[len(l)] {
			t.Fatal(p.String(), state, b)
		}
	}
}

// P9.3: k is in the state just if the first k items match, or occur up to the end.
func TestMeaning(t *testing.T) {
	random := rand.New(rand.NewSource(10))
	for range 3000 {
		var p, s strings.Builder
		for range random.Intn(6) {
			p.WriteByte("*ab?"[random.Intn(4)])
		}
		for range random.Intn(7) {
			s.WriteByte("ab"[random.Intn(2)])
		}
		l, w := of(p.String()), s.String()
		if lang.Empty(l) {
			continue
		}
		x := compiled(t, p.String())
		step, seek := x.Start(), x.Start()
		for i := range len(w) {
			step, seek = x.Step(step, w[i]), x.Seek(seek, w[i])
		}
		for k := range len(l) + 1 {
			match := lang.Matches(l[:k], w)
			occur := len(lang.Starts(l[:k], w, len(w))) > 0
			if k < len(l) && l[k].Run {
				match = match || lang.Matches(l[:k+1], w)
				occur = occur || len(lang.Starts(l[:k+1], w, len(w))) > 0
			}
			if step>>k&1 == 1 != match || seek>>k&1 == 1 != occur {
				t.Fatal(p.String(), w, k)
			}
		}
		if x.Done(step) != lang.Matches(l, w) || x.Done(seek) != (len(lang.Starts(l, w, len(w))) > 0) {
			t.Fatal(p.String(), w)
		}
	}
}
