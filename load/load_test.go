package load

import (
	"slices"
	"strconv"
	"strings"
	"testing"

	"repartee/api"
	"repartee/fault"
	"repartee/parse"
	"repartee/prog"
)

// same tells whether two scripts are the same.
func same(a, b Script) bool {
	return prog.Same(a.Prog, b.Prog) && a.Line == b.Line && a.Spot == b.Spot && a.Err == b.Err
}

// P17.1: how a text is cut, and how long it may be.
func TestCut(t *testing.T) {
	for text, want := range map[string][]int{
		"": nil, "\n#a\n\n": nil, "script a 9 0": {1}, "#\n\nscript a 9 0\ndone\nscript": {3, 5}, "\n\ndone\nscript a 9 0": {1, 4}, "scripts a 9 0\nscript a 9 0": {1, 2}, " script a 9 0": {1}, "script\tx\nscript a 9 0": {1, 2}, "script a 9 0\nscript \nscript b 9 0\n\n": {1, 2, 3}, "\"script\"\n": {1},
	} {
		l, e := Load(text)
		var got []int
		for _, x := range l {
			got = append(got, x.Line)
		}
		if e != api.OK || !slices.Equal(got, want) {
			t.Errorf("%q: %v %d", text, got, e)
		}
	}
	many := strings.Repeat("script\n", 64)
	if l, e := Load(many); len(l) != 64 || e != api.OK {
		t.Error("64", len(l), e)
	}
	for _, text := range []string{many + "script", "done\n" + many, strings.Repeat("#", 40001)} {
		if l, e := Load(text); len(l) != 0 || e != api.ErrLong {
			t.Error(len(text), len(l), e)
		}
	}
	if l, e := Load("#\n" + many); len(l) != 64 || e != api.OK {
		t.Error("idle ahead", len(l), e)
	}
	if l, e := Load("script a 9 0\n" + strings.Repeat("#", 39987)); len(l) != 1 || e != api.OK {
		t.Error("as long as may be", len(l), e)
	}
}

// P17.2: each one by itself.
func TestEach(t *testing.T) {
	const text = "#\nscript a 9 0\ndone\nscript b x 0\n\n\nscript c 9 0\ngoto d\nscript a 7 0\nfail\nscript b 9 0\nscript a"
	a, _, _ := parse.Parse("script a 9 0\ndone")
	b, _, _ := parse.Parse("script b 9 0")
	want := []Script{
		{Prog: a, Line: 2},
		{Line: 4, Spot: api.Spot{Line: 4, Col: 10}, Err: api.ErrForm},
		{Line: 7, Spot: api.Spot{Line: 8, Col: 6}, Err: api.ErrLabel},
		{Line: 9, Spot: api.Spot{Line: 9, Col: 8}, Err: api.ErrDup},
		{Prog: b, Line: 11},
		{Line: 12, Spot: api.Spot{Line: 12, Col: 9}, Err: api.ErrEnd},
	}
	l, e := Load(text)
	if e != api.OK || !slices.EqualFunc(l, want, same) {
		t.Error(l, e)
	}
	l, e = Load("\n\ndone\nscript a 9 0")
	if e != api.OK || !slices.EqualFunc(l, []Script{{Line: 1, Spot: api.Spot{Line: 3, Col: 1}, Err: api.ErrWord}, {Prog: api.Prog{Name: "a", Deadline: 9}, Line: 4}}, same) {
		t.Error(l, e)
	}
}

// P17.3: Find, Right, Faults.
func TestAsked(t *testing.T) {
	l, _ := Load("script a 9 0\nscript b x 0\nscript c 9 0\nscript a 7 0")
	for name, want := range map[string]int{"a": 0, "c": 2} {
		if n, ok := Find(l, name); n != want || !ok {
			t.Error(name, n, ok)
		}
	}
	for _, name := range []string{"b", "", "A"} {
		if n, ok := Find(l, name); n != 0 || ok {
			t.Error(name, n, ok)
		}
	}
	var texts []string
	for _, err := range Faults(l) {
		texts = append(texts, fault.Text(err))
	}
	if Right(l) != 2 || !slices.Equal(texts, []string{"in 1: line 2, column 10: error 2", "in 3: line 4, column 8: error 6"}) {
		t.Error(Right(l), texts)
	}
	if Right(nil) != 0 || len(Faults(nil)) != 0 {
		t.Error("none")
	}
	if n, ok := Find(nil, "a"); n != 0 || ok {
		t.Error("none")
	}
}

// P17.4: what is wrong of one touches no other one.
func TestApart(t *testing.T) {
	bad := []string{"script", "script x", "script x 9 0\ngoto y", "script x 9 0\non", "script x 0 0\n\n\n", "script X 9 0"}
	for i, x := range bad {
		for j, y := range bad {
			a, _ := Load("script a 9 0\nexpect 3\n" + x + "\nscript b 9 0\nscript a 9 0\ngoto z")
			b, _ := Load("script a 9 0\nexpect 3\n" + y + "\nscript b 9 0\nscript a 9 0\ngoto z")
			more := strings.Count(y, "\n") - strings.Count(x, "\n")
			for k := range a {
				want := a[k]
				if k > 1 {
					want.Line += more
					if want.Err != api.OK {
						want.Spot.Line += more
					}
				}
				if k != 1 && !same(want, b[k]) {
					t.Error(i, j, strconv.Itoa(k), want, b[k])
				}
			}
		}
	}
}
