package fifo

import (
	"math/rand"
	"slices"
	"testing"

	"repartee/api"
)

// same tells whether q is the row want, by all that it tells.
func same(q *Fifo, most int, want ...int) bool {
	if !slices.Equal(q.List(), want) || q.Len() != len(want) || q.Most() != most {
		return false
	}
	for id := -2; id < most+2; id++ {
		at := slices.Index(want, id)
		if q.Place(id) != at || q.Has(id) != (at >= 0) {
			return false
		}
	}
	front, ok := q.Front()
	if len(want) == 0 {
		return front == 0 && !ok
	}
	return front == want[0] && ok
}

// P4.1: New, Push, Pop, Front, Turn.
func TestPushPopTurn(t *testing.T) {
	for most, want := range map[int]int{-3: 1, 0: 1, 1: 1, 5: 5, api.MaxLive: api.MaxLive, api.MaxLive + 1: api.MaxLive, 1 << 50: api.MaxLive} {
		if q := New(most); !same(q, want) {
			t.Error(most, q.Most())
		}
	}
	q := New(4)
	if !q.Push(3) || !q.Push(1) || q.Push(3) || !same(q, 4, 3, 1) || !q.Turn() || !same(q, 4, 1, 3) {
		t.Error("example")
	}
	if q.Push(-1) || q.Push(4) || q.Push(1<<62) || q.Push(-1<<62) || !same(q, 4, 1, 3) {
		t.Error("no such number")
	}
	if id, ok := q.Pop(); id != 1 || !ok || !same(q, 4, 3) {
		t.Error("Pop", id, ok)
	}
	if !q.Turn() || !same(q, 4, 3) || !q.Push(1) || !same(q, 4, 3, 1) {
		t.Error("Turn of one")
	}
	q.Pop()
	q.Pop()
	if id, ok := q.Pop(); id != 0 || ok || q.Turn() || !same(q, 4) || !q.Push(0) || !same(q, 4, 0) {
		t.Error("empty")
	}
}

// P4.2: Cut, Has, Place, List, Len, Most, and a nil row.
func TestCutList(t *testing.T) {
	q := New(6)
	for _, id := range []int{5, 2, 0, 3} {
		q.Push(id)
	}
	if q.Cut(1) || q.Cut(-1) || q.Cut(6) || !same(q, 6, 5, 2, 0, 3) || !q.Cut(2) || q.Cut(2) || !same(q, 6, 5, 0, 3) || !q.Cut(3) || !q.Cut(5) || !same(q, 6, 0) {
		t.Error("Cut", q.List())
	}
	if !q.Push(2) || !same(q, 6, 0, 2) {
		t.Error("back again")
	}
	l := q.List()
	l[0] = 9
	_ = append(l[:1], 7)
	if !same(q, 6, 0, 2) {
		t.Error("List is not its own")
	}
	var none *Fifo
	a, aok := none.Pop()
	b, bok := none.Front()
	if none.Push(0) || a != 0 || aok || b != 0 || bok || none.Turn() || none.Cut(0) || none.Has(0) || none.Place(0) != -1 || len(none.List()) != 0 || none.Len() != 0 || none.Most() != 0 {
		t.Error("nil")
	}
	if zero := new(Fifo); zero.Push(0) || zero.Turn() || zero.Cut(0) || zero.Has(0) {
		t.Error("zero")
	}
}

// P4.3: who stands at place n is popped with the n+1-st Pop, however many are pushed.
func TestInOrder(t *testing.T) {
	random := rand.New(rand.NewSource(4))
	for range 300 {
		most := 1 + random.Intn(9)
		q := New(most)
		var want []int
		for range 60 {
			id := random.Intn(most)
			switch random.Intn(6) {
			case 0, 1, 2:
				if q.Push(id) != !slices.Contains(want, id) {
					t.Fatal("Push")
				}
				if !slices.Contains(want, id) {
					want = append(want, id)
				}
			case 3:
				if at := slices.Index(want, id); q.Cut(id) != (at >= 0) {
					t.Fatal("Cut")
				} else if at >= 0 {
					want = slices.Delete(want, at, at+1)
				}
			case 4:
				if q.Turn() != (len(want) > 0) {
					t.Fatal("Turn")
				}
				if len(want) > 0 {
					want = append(want[1:], want[0])
				}
			default:
				if got, ok := q.Pop(); ok != (len(want) > 0) || ok && got != want[0] {
					t.Fatal("Pop")
				}
				want = want[min(1, len(want)):]
			}
			if !same(q, most, want...) {
				t.Fatal(q.List(), want)
			}
		}
	}
	q := New(5)
	q.Push(4)
	q.Push(2)
	n := q.Place(2)
	for range n {
		q.Pop()
		q.Push(n)
		q.Push(3)
	}
	if id, _ := q.Pop(); id != 2 {
		t.Error("the n+1-st", id)
	}
}
