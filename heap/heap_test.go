package heap

import (
	"math/rand"
	"slices"
	"sort"
	"testing"

	"repartee/api"
)

// entries is a map of deadlines in order.
func entries(at map[int]int64) []api.Entry {
	var l []api.Entry
	for id, t := range at {
		l = append(l, api.Entry{At: t, Id: id})
	}
	sort.Slice(l, func(i, j int) bool { return l[i].At < l[j].At || l[i].At == l[j].At && l[i].Id < l[j].Id })
	return l
}

// same tells whether h holds these deadlines, by all that it tells.
func same(h *Heap, most int, at map[int]int64) bool {
	want := entries(at)
	if !slices.Equal(h.List(), want) || h.Len() != len(want) || h.Most() != most {
		return false
	}
	for id := -2; id < most+2; id++ {
		w, has := at[id]
		if t, ok := h.At(id); t != w || ok != has {
			return false
		}
	}
	first, ok := h.Min()
	if len(want) == 0 {
		return first == (api.Entry{}) && !ok
	}
	return first == want[0] && ok
}

// P5.1: New, Set, Cut, At, Len, Most.
func TestSetCut(t *testing.T) {
	for most, want := range map[int]int{-3: 1, 0: 1, 1: 1, 5: 5, api.MaxLive: api.MaxLive, api.MaxLive + 1: api.MaxLive} {
		if h := New(most); !same(h, want, nil) {
			t.Error(most, h.Most())
		}
	}
	h := New(4)
	if h.Set(-1, 3) || h.Set(4, 3) || h.Set(1<<60, 3) || h.Cut(0) || h.Cut(-1) || h.Cut(4) || !same(h, 4, nil) {
		t.Error("no such number")
	}
	if !h.Set(0, 5) || !h.Set(1, -5) || !h.Set(2, api.Never) || !h.Set(3, api.Never-1) || !same(h, 4, map[int]int64{0: 5, 1: 0, 3: api.Never - 1}) {
		t.Error("Set", h.List())
	}
	if !h.Set(0, 9) || !h.Set(3, api.Never) || h.Cut(3) || !same(h, 4, map[int]int64{0: 9, 1: 0}) || !h.Cut(1) || h.Cut(1) || !same(h, 4, map[int]int64{0: 9}) {
		t.Error("anew", h.List())
	}
}

// P5.2: Min, Pop, Due, List, and a nil heap.
func TestOrder(t *testing.T) {
	h := New(4)
	h.Set(2, 5)
	h.Set(0, 5)
	h.Set(1, 4)
	h.Set(2, 3)
	if l := h.Due(4); !slices.Equal(l, []api.Entry{{At: 3, Id: 2}, {At: 4, Id: 1}}) || !same(h, 4, map[int]int64{0: 5}) {
		t.Error("example", l)
	}
	h.Set(3, 5)
	l := h.List()
	l[0].At = 1
	if !same(h, 4, map[int]int64{0: 5, 3: 5}) || len(h.Due(-1)) != 0 || len(h.Due(4)) != 0 {
		t.Error("List", h.List())
	}
	if x, ok := h.Pop(); x != (api.Entry{At: 5, Id: 0}) || !ok || !same(h, 4, map[int]int64{3: 5}) {
		t.Error("Pop", x, ok)
	}
	h.Pop()
	if x, ok := h.Pop(); x != (api.Entry{}) || ok || !same(h, 4, nil) {
		t.Error("empty")
	}
	h.Set(1, 0)
	if l := h.Due(-9); !slices.Equal(l, []api.Entry{{At: 0, Id: 1}}) {
		t.Error("below 0", l)
	}
	var none *Heap
	at, has := none.At(0)
	a, aok := none.Min()
	b, bok := none.Pop()
	if none.Set(0, 1) || none.Cut(0) || at != 0 || has || a != (api.Entry{}) || aok || b != (api.Entry{}) || bok || len(none.Due(9)) != 0 || len(none.List()) != 0 || none.Len() != 0 || none.Most() != 0 {
		t.Error("nil")
	}
	if zero := new(Heap); zero.Set(0, 1) || zero.Cut(0) || len(zero.Due(9)) != 0 {
		t.Error("zero")
	}
}

// P5.3: behind Due nothing that is due is left, and nothing else is gone; Pop tells all in order.
func TestLaws(t *testing.T) {
	random := rand.New(rand.NewSource(5))
	for range 300 {
		most := 1 + random.Intn(12)
		h := New(most)
		want := map[int]int64{}
		for range 60 {
			id, at := random.Intn(most), int64(random.Intn(9)-1)
			switch random.Intn(5) {
			case 0, 1, 2:
				h.Set(id, at)
				want[id] = max(at, 0)
			case 3:
				h.Cut(id)
				delete(want, id)
			default:
				var due []api.Entry
				for _, x := range entries(want) {
					if x.At <= max(at, 0) {
						due = append(due, x)
						delete(want, x.Id)
					}
				}
				if l := h.Due(at); !slices.Equal(l, due) {
					t.Fatal("Due", at, l, due)
				}
			}
			if !same(h, most, want) {
				t.Fatal(h.List(), want)
			}
		}
		for _, x := range entries(want) {
			if got, ok := h.Pop(); got != x || !ok {
				t.Fatal("Pop", got, x)
			}
		}
	}
}
