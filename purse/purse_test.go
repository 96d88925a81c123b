package purse

import (
	"math/rand"
	"testing"

	"repartee/api"
)

// P26.1: New, Give, Pay, Clear, Has, All, Quantum.
func TestPurse(t *testing.T) {
	for most, want := range map[int]int{-3: 1, 0: 1, 1: 1, 5: 5, api.MaxLive: api.MaxLive, api.MaxLive + 1: api.MaxLive} {
		p := New(most, 3)
		for id := range 2000 {
			if p.Has(id) != 0 || (p.Give(id) == 3) != (id < want) {
				t.Fatal(most, id)
			}
		}
		if p.All() != 3*want {
			t.Error(most, p.All())
		}
	}
	for quantum, want := range map[int]int{-3: 1, 0: 1, 1: 1, 7: 7, api.MaxQuantum: api.MaxQuantum, api.MaxQuantum + 1: api.MaxQuantum} {
		if p := New(2, quantum); p.Quantum() != want || p.Give(1) != want || p.All() != want {
			t.Error(quantum, p.Quantum())
		}
	}
	p := New(3, 3)
	if p.Give(1) != 3 || p.Pay(1, 5) || p.Has(1) != 3 || p.Give(1) != 6 || !p.Pay(1, 5) || p.Has(1) != 1 || !p.Pay(1, 1) || p.Has(1) != 0 {
		t.Error("example")
	}
	if !p.Pay(1, 0) || !p.Pay(1, -9) || !p.Pay(1, -1<<63) || p.Has(1) != 0 || p.Pay(1, 1) {
		t.Error("free")
	}
	p.Give(0)
	p.Give(1)
	p.Give(1)
	if p.All() != 9 || p.Clear(1) != 6 || p.Clear(1) != 0 || p.Has(1) != 0 || p.Has(0) != 3 || p.All() != 3 {
		t.Error("Clear")
	}
	for _, id := range []int{-1, 3, 1 << 60, -1 << 63} {
		if p.Give(id) != 0 || p.Pay(id, 0) || p.Clear(id) != 0 || p.Has(id) != 0 || p.All() != 3 {
			t.Error("no such number", id)
		}
	}
	rich := New(1, api.MaxQuantum)
	for range 2100 {
		rich.Give(0)
	}
	if rich.Has(0) != 2000000000 || rich.Give(0) != 2000000000 || rich.Pay(0, 2000000001) || !rich.Pay(0, 2000000000) {
		t.Error("Rich", rich.Has(0))
	}
	var none *Purse
	if none.Give(0) != 0 || none.Pay(0, 0) || none.Clear(0) != 0 || none.Has(0) != 0 || none.All() != 0 || none.Quantum() != 0 {
		t.Error("nil")
	}
}

// P26.2: behind as many Gives as a price by the quantum it can be paid; nobody changes another one's.
func TestLaws(t *testing.T) {
	random := rand.New(rand.NewSource(26))
	for range 1000 {
		quantum, price := 1+random.Intn(9), random.Intn(60)
		p := New(3, quantum)
		p.Give(2)
		for range (price + quantum - 1) / quantum {
			if price > 0 && p.Pay(1, price) {
				t.Fatal("paid too soon")
			}
			p.Give(1)
		}
		if !p.Pay(1, price) || p.Has(2) != quantum || p.Has(0) != 0 {
			t.Fatal(quantum, price)
		}
	}
}
