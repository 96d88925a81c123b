package slots

import (
	"math/rand"
	"slices"
	"testing"

	"repartee/api"
)

// stands tells whether s has these in its slots (-1: nobody), by all that it tells.
func stands(s *Slots, next int, who ...int) bool {
	var live []int
	for slot, id := range who {
		got, ok := s.Who(slot)
		if id < 0 {
			if got != 0 || ok {
				return false
			}
			continue
		}
		where, in := s.Slot(id)
		if got != id || !ok || where != slot || !in {
			return false
		}
		live = append(live, id)
	}
	slices.Sort(live)
	return slices.Equal(s.Live(), live) && s.Free() == len(who)-len(live) && s.Next() == next
}

// opens tells whether Open answers so.
func opens(s *Slots, id, slot int, ok bool) bool {
	a, b, c := s.Open()
	return a == id && b == slot && c == ok
}

// P28.1: New, Open, Skip.
func TestOpen(t *testing.T) {
	for most, want := range map[int]int{-3: 1, 0: 1, 1: 1, 5: 5, api.MaxLive: api.MaxLive, api.MaxLive + 1: api.MaxLive} {
		s := New(most)
		for id := range want {
			if s.Free() != want-id || !opens(s, id, id, true) {
				t.Fatal(most, id)
			}
		}
		if !opens(s, 0, 0, false) || s.Free() != 0 || s.Next() != want {
			t.Error(most)
		}
	}
	s := New(2)
	if !opens(s, 0, 0, true) || !opens(s, 1, 1, true) || !opens(s, 0, 0, false) || !s.Close(0) || s.Skip() != 2 || !opens(s, 3, 0, true) || !stands(s, 4, 3, 1) {
		t.Error("example")
	}
	s = New(3)
	for n := range api.MaxOpens - 1 {
		if s.Skip() != n {
			t.Fatal(n)
		}
	}
	if !opens(s, api.MaxOpens-1, 0, true) || !opens(s, 0, 0, false) || s.Skip() != -1 || !stands(s, api.MaxOpens, api.MaxOpens-1, -1, -1) {
		t.Error("no number")
	}
}

// P28.2: Close, Slot, Who, Live, Free, Next, and nil slots.
func TestClose(t *testing.T) {
	s := New(3)
	for range 3 {
		s.Open()
	}
	if !s.Close(1) || s.Close(1) || s.Close(-1) || s.Close(3) || !stands(s, 3, 0, -1, 2) {
		t.Error("Close")
	}
	if slot, ok := s.Slot(1); slot != 0 || ok {
		t.Error("Slot")
	}
	for _, slot := range []int{-1, 1, 3, 1 << 60} {
		if id, ok := s.Who(slot); id != 0 || ok {
			t.Error("Who", slot)
		}
	}
	if !opens(s, 3, 1, true) || !stands(s, 4, 0, 3, 2) {
		t.Error("Open")
	}
	l := s.Live()
	l[0] = 9
	if !stands(s, 4, 0, 3, 2) {
		t.Error("Live is not its own")
	}
	var none *Slots
	a, aok := none.Slot(0)
	b, bok := none.Who(0)
	if !opens(none, 0, 0, false) || none.Skip() != -1 || none.Close(0) || a != 0 || aok || b != 0 || bok || len(none.Live()) != 0 || none.Free() != 0 || none.Next() != 0 {
		t.Error("nil")
	}
	zero := new(Slots)
	zero.Open()
	zero.Close(0)
}

// P28.3: no slot is had by two, no number is given twice, the least slot that nobody has.
func TestLaws(t *testing.T) {
	random := rand.New(rand.NewSource(28))
	for range 300 {
		s := New(1 + random.Intn(6))
		who := slices.Repeat([]int{-1}, s.Free())
		next := 0
		for range 60 {
			switch random.Intn(4) {
			case 0, 1:
				slot := slices.Index(who, -1)
				if slot < 0 {
					if !opens(s, 0, 0, false) {
						t.Fatal("full")
					}
					continue
				}
				if !opens(s, next, slot, true) {
					t.Fatal("Open")
				}
				who[slot] = next
				next++
			case 2:
				id := random.Intn(next + 1)
				slot := slices.Index(who, id)
				if s.Close(id) != (slot >= 0) {
					t.Fatal("Close")
				}
				if slot >= 0 {
					who[slot] = -1
				}
			default:
				if s.Skip() != next {
					t.Fatal("Skip")
				}
				next++
			}
			if !stands(s, next, who...) {
				t.Fatal(who, s.Live())
			}
		}
	}
}
