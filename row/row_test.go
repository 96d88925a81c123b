package row

import (
	"testing"

	"repartee/api"
)

// told is what is wrong of a line by how it is read.
func told(line string, read func(r *Row)) api.Spot {
	r := New(line)
	read(r)
	col, e := r.Wrong()
	return api.Spot{Line: int(e), Col: col}
}

func TestRow(t *testing.T) {
	read := func(r *Row) {
		r.Head()
		r.Number(1, 9)
		r.Text()
		r.End()
	}
	for line, want := range map[string]api.Spot{`a 1 "x"`: {}, `"a" 1 "x"`: {Line: 11, Col: 1}, `a`: {Line: 3, Col: 2}, `a 1`: {Line: 3, Col: 4}, `a 0 "x"`: {Line: 12, Col: 3}, `a 10 x`: {Line: 12, Col: 3}, `a x x`: {Line: 2, Col: 3}, `a "1" x`: {Line: 2, Col: 3}, `a 1 x y`: {Line: 2, Col: 5}, `a 1 "x" y`: {Line: 2, Col: 9}, `a 1  "x"`: {Line: 2, Col: 5}, `a 1 `: {Line: 3, Col: 5}} {
		if got := told(line, read); got != want {
			t.Error(line, got, want)
		}
	}
	r := New(`a b`)
	if r.Col() != 1 || r.Head() != "a" || r.Bare() != "b" || r.Col() != 3 || r.Bare() != "" || r.Bare() != "" {
		t.Error("words")
	}
	if col, e := r.Wrong(); col != 4 || e != api.ErrEnd {
		t.Error(col, e)
	}
	r.Fail(api.ErrDup)
	if _, e := r.Wrong(); e != api.ErrEnd {
		t.Error("not the first", e)
	}
}
