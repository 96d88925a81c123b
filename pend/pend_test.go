package pend

import (
	"math/rand"
	"strings"
	"testing"
)

// stands tells whether p stands so, by all that it tells.
func stands(p *Pend, laid string, rest, sent, tries int) bool {
	return p.Peek() == laid && p.Left() == len(laid) && p.Rest() == rest && p.Sent() == sent && p.Tries() == tries
}

// P20.1: New, Begin, Load.
func TestLoad(t *testing.T) {
	for out, most := range map[int]int{-4: 1, 0: 1, 1: 1, 3: 3, 4096: 4096, 4097: 4096, 1 << 60: 4096} {
		p := New(out)
		if !stands(p, "", 0, 0, 0) || p.Load() != 0 {
			t.Error(out)
		}
		long := strings.Repeat("x", 5000)
		p.Begin(long)
		if !stands(p, "", 5000, 0, 0) || p.Load() != most || !stands(p, long[:most], 5000-most, 0, 0) {
			t.Error(out, p.Left())
		}
	}
	p := New(3)
	p.Begin("abcde")
	if p.Load() != 3 || p.Load() != 0 || !stands(p, "abc", 2, 0, 0) {
		t.Error("Load")
	}
	p.Take(1)
	p.Begin("xy")
	if !stands(p, "", 2, 0, 0) || p.Load() != 2 || !stands(p, "xy", 0, 0, 0) {
		t.Error("Begin anew")
	}
	p.Begin("")
	if !stands(p, "", 0, 0, 0) || p.Load() != 0 {
		t.Error("empty")
	}
}

// P20.2: Take, Peek, Left, Rest, Sent, Tries, Drop, Copy, and a nil writer.
func TestTake(t *testing.T) {
	p := New(3)
	p.Begin("abcde")
	if p.Take(2) != "" || !stands(p, "", 5, 0, 0) {
		t.Error("nothing laid out")
	}
	if p.Load() != 3 || p.Take(2) != "ab" || !stands(p, "c", 2, 2, 1) || p.Load() != 0 || p.Take(9) != "c" || !stands(p, "", 2, 3, 1) || p.Load() != 2 || p.Take(9) != "de" || !stands(p, "", 0, 5, 1) || p.Load() != 0 || p.Take(1) != "" {
		t.Error("example")
	}
	p.Begin("abcde")
	p.Load()
	if p.Take(0) != "" || p.Take(-1<<62) != "" || !stands(p, "abc", 2, 0, 2) || p.Take(3) != "abc" || !stands(p, "", 2, 3, 2) {
		t.Error("Tries")
	}
	p.Load()
	p.Take(1)
	c := p.Copy()
	if p.Drop() != 1 || !stands(p, "", 0, 4, 3) || p.Drop() != 0 || p.Load() != 0 || !stands(c, "e", 0, 4, 3) || c.Take(1<<62) != "e" || !stands(p, "", 0, 4, 3) {
		t.Error("Drop, Copy")
	}
	p.Begin("abcde")
	p.Load()
	p.Take(1)
	if p.Drop() != 4 || !stands(p, "", 0, 1, 1) {
		t.Error("Drop of what is not laid out, too")
	}
	p.Begin("abcd")
	if p.Load() != 3 {
		t.Error("a text behind Drop")
	}
	var none *Pend
	none.Begin("a")
	if none.Load() != 0 || none.Take(1) != "" || !stands(none, "", 0, 0, 0) || none.Drop() != 0 || none.Copy() != nil {
		t.Error("nil")
	}
}

// P20.3: what is taken is the text from its beginning on; Sent, Left, Rest together are how long it is.
func TestLaws(t *testing.T) {
	random := rand.New(rand.NewSource(20))
	for range 1000 {
		b := make([]byte, random.Intn(20))
		random.Read(b)
		text := string(b)
		p := New(1 + random.Intn(6))
		p.Begin(text)
		taken := ""
		for range 40 {
			if random.Intn(2) == 0 {
				p.Load()
			} else {
				taken += p.Take(random.Intn(6) - 1)
			}
			if !strings.HasPrefix(text, taken) || p.Sent() != len(taken) || p.Sent()+p.Left()+p.Rest() != len(text) {
				t.Fatal(text, taken)
			}
		}
		dropped := p.Drop()
		if len(taken)+dropped != len(text) {
			t.Fatal("Drop")
		}
	}
}
