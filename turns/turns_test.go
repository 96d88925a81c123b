package turns

import (
	"math/rand"
	"slices"
	"testing"

	"repartee/api"
)

// stands tells whether t stands so: who has his turn (-1: nobody), how many began, who waits.
func stands(t *Turns, whose, done int, row ...int) bool {
	id, on := t.Whose()
	if on != (whose >= 0) || id != max(whose, 0) || t.Done() != done || !slices.Equal(t.List(), row) {
		return false
	}
	for id := -1; id < 9; id++ {
		if t.Waits(id) != (slices.Contains(row, id) || on && id == whose) {
			return false
		}
	}
	return true
}

// P27.1: New and Wake.
func TestWake(t *testing.T) {
	for most, want := range map[int]int{-3: 1, 0: 1, 1: 1, 5: 5, api.MaxLive: api.MaxLive, api.MaxLive + 1: api.MaxLive} {
		x := New(most, 1)
		if !stands(x, -1, 0) || x.Wake(-1) || x.Wake(want) || !x.Wake(want-1) || x.Wake(want-1) {
			t.Error(most)
		}
	}
	for quantum, want := range map[int]int{-3: 1, 0: 1, 7: 7, api.MaxQuantum + 1: api.MaxQuantum} {
		x := New(1, quantum)
		x.Wake(0)
		if x.Begin(); x.Has(0) != want {
			t.Error(quantum, x.Has(0))
		}
	}
	x := New(4, 2)
	if !x.Wake(2) || !x.Wake(0) || x.Wake(2) || !stands(x, -1, 0, 2, 0) {
		t.Error("Wake")
	}
	x.Begin()
	if x.Wake(2) || !x.Wake(3) || !stands(x, 2, 1, 0, 3) {
		t.Error("his turn")
	}
}

// P27.2: Begin, Pay, End, Leave.
func TestTurn(t *testing.T) {
	x := New(4, 2)
	x.Wake(0)
	x.Wake(1)
	if id, ok := x.Begin(); id != 0 || !ok || x.Pay(3) || x.Has(0) != 2 || !stands(x, 0, 1, 1) || !x.End(true) || !stands(x, -1, 1, 1, 0) || x.Has(0) != 2 {
		t.Error("again", id, ok)
	}
	if id, ok := x.Begin(); id != 1 || !ok || !x.End(false) || x.Has(1) != 0 || !stands(x, -1, 2, 0) {
		t.Error("no more", id, ok)
	}
	if id, ok := x.Begin(); id != 0 || !ok || x.Has(0) != 4 || !x.Pay(3) || x.Has(0) != 1 || !x.Pay(-5) || x.Pay(2) {
		t.Error("saved", id, ok)
	}
	x.Wake(3)
	if id, ok := x.Begin(); id != 0 || ok || !stands(x, 0, 3, 3) {
		t.Error("a turn is on", id, ok)
	}
	if !x.End(false) || x.End(true) || x.End(false) || x.Pay(0) || x.Has(0) != 0 || !stands(x, -1, 3, 3) {
		t.Error("no turn is on")
	}
	x.Begin()
	x.End(true)
	if !x.Leave(3) || x.Leave(3) || x.Has(3) != 0 || !stands(x, -1, 4) {
		t.Error("Leave of one who waits")
	}
	if id, ok := x.Begin(); id != 0 || ok || !stands(x, -1, 4) {
		t.Error("nobody waits", id, ok)
	}
	x.Wake(1)
	x.Wake(2)
	x.Begin()
	x.Wake(3)
	if !x.Leave(3) || !stands(x, 1, 5, 2) {
		t.Error("Leave of one who waits, while a turn is on")
	}
	if x.Leave(0) || x.Leave(-1) || x.Leave(9) || !x.Leave(1) || x.Leave(1) || x.Has(1) != 0 || !stands(x, -1, 5, 2) || x.End(true) || !x.Wake(1) || !stands(x, -1, 5, 2, 1) {
		t.Error("Leave of one whose turn it is")
	}
}

// P27.3: Whose, Has, Waits, List, Done, and nil turns.
func TestAsked(t *testing.T) {
	x := New(4, 2)
	x.Wake(3)
	x.Wake(1)
	l := x.List()
	l[0] = 0
	if !stands(x, -1, 0, 3, 1) || x.Has(-1) != 0 || x.Has(9) != 0 {
		t.Error("List is not its own")
	}
	var none *Turns
	id, ok := none.Begin()
	if none.Wake(0) || id != 0 || ok || none.Pay(0) || none.End(true) || none.Leave(0) || none.Has(0) != 0 || !stands(none, -1, 0) {
		t.Error("nil")
	}
	zero := new(Turns)
	zero.Wake(0)
	zero.Begin()
	zero.Leave(0)
}

// P27.4: who waits pays what k quanta are in his k-th turn, within most times k turns.
func TestLaws(t *testing.T) {
	random := rand.New(rand.NewSource(27))
	for range 2000 {
		most, quantum := 1+random.Intn(6), 1+random.Intn(9)
		k := 1 + random.Intn(6)
		x := New(most, quantum)
		for range random.Intn(9) {
			x.Wake(random.Intn(most))
		}
		one := random.Intn(most)
		x.Wake(one)
		mine, price := 0, quantum*(k-1)+1+random.Intn(quantum)
		for n := 1; ; n++ {
			if n > most*k {
				t.Fatal("not within", most, k)
			}
			id, ok := x.Begin()
			if !ok {
				t.Fatal("nobody")
			}
			if id == one {
				mine++
				if x.Pay(price) {
					break
				}
				x.End(true)
			} else {
				x.Pay(random.Intn(2 * quantum))
				x.End(random.Intn(4) > 0)
			}
			if other := random.Intn(most); other != one {
				x.Wake(other)
			}
		}
		if mine != k {
			t.Fatal("in turn", mine, k)
		}
	}
}
