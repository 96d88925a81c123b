package ring

import (
	"math/rand"
	"strings"
	"testing"

	"repartee/api"
)

// same tells whether r holds the bytes of s, at most most, by all that it tells.
func same(r *Ring, s string, most int) bool {
	if r.Len() != len(s) || r.Most() != most || r.Room() != most-len(s) || r.Peek(0, len(s)+9) != s {
		return false
	}
	for i := range len(s) {
		if b, ok := r.At(i); b != s[i] || !ok {
			return false
		}
	}
	b, ok := r.At(len(s))
	return b == 0 && !ok
}

// P3.1: New, Put, Take, Drop.
func TestPutTakeDrop(t *testing.T) {
	for most, want := range map[int]int{-5: 1, 0: 1, 1: 1, 7: 7, api.MaxRing: api.MaxRing, api.MaxRing + 1: api.MaxRing, 1 << 40: api.MaxRing} {
		if r := New(most); !same(r, "", want) {
			t.Error(most, r.Most())
		}
	}
	r := New(3)
	if r.Put("abcd") != 3 || r.Put("x") != 0 || r.Take(2) != "ab" || r.Put("de") != 2 || r.Peek(1, 9) != "de" || !same(r, "cde", 3) {
		t.Error("example")
	}
	if r.Take(-1) != "" || r.Take(0) != "" || r.Drop(-1) != 0 || r.Drop(0) != 0 || r.Put("") != 0 || !same(r, "cde", 3) {
		t.Error("nothing")
	}
	if r.Drop(1) != 1 || r.Drop(9) != 2 || r.Drop(9) != 0 || r.Take(1<<62) != "" || !same(r, "", 3) {
		t.Error("all")
	}
	if r.Put("xy") != 2 || r.Take(1<<62) != "xy" {
		t.Error("more than there are")
	}
}

// P3.2: Peek, At, Len, Room, Most, Copy, and a nil ring.
func TestPeekCopy(t *testing.T) {
	r := New(4)
	r.Put("zzab")
	r.Drop(2)
	r.Put("cd")
	for at := -2; at < 7; at++ {
		for n := -2; n < 7; n++ {
			want := ""
			if at >= 0 && at < 4 && n > 0 {
				want = "abcd"[at:min(at+n, 4)]
			}
			if r.Peek(at, n) != want {
				t.Error(at, n, r.Peek(at, n), want)
			}
		}
	}
	if r.Peek(1, 1<<63-1) != "bcd" || r.Peek(1<<63-1, 1<<63-1) != "" || !same(r, "abcd", 4) {
		t.Error("great numbers")
	}
	if b, ok := r.At(-1); b != 0 || ok {
		t.Error("At")
	}
	c := r.Copy()
	r.Drop(1)
	r.Put("e")
	if !same(c, "abcd", 4) || !same(r, "bcde", 4) || c.Take(4) != "abcd" || !same(r, "bcde", 4) {
		t.Error("Copy")
	}
	var none *Ring
	b, ok := none.At(0)
	if none.Put("a") != 0 || none.Take(1) != "" || none.Peek(0, 1) != "" || b != 0 || ok || none.Drop(1) != 0 || none.Len() != 0 || none.Room() != 0 || none.Most() != 0 || none.Copy() != nil {
		t.Error("nil")
	}
	zero := new(Ring)
	if zero.Put("a") != 0 || zero.Take(1) != "" || zero.Copy().Len() != 0 {
		t.Error("zero")
	}
}

// P3.3: what is taken is what came, each byte once; Len and Room together are Most.
func TestInOrder(t *testing.T) {
	random := rand.New(rand.NewSource(3))
	for most := 1; most < 9; most++ {
		r := New(most)
		came, held := 0, ""
		for range 2000 {
			s := strings.Repeat("x", random.Intn(most+3))
			piece := []byte(s)
			for i := range piece {
				piece[i] = byte(came + i)
			}
			n := r.Put(string(piece))
			if n != min(len(piece), most-len(held)) {
				t.Fatal("Put", n)
			}
			came += n
			held += string(piece[:n])
			n = random.Intn(most + 3)
			want := held[:min(n, len(held))]
			if random.Intn(2) == 0 && r.Drop(n) != len(want) {
				t.Fatal("Drop")
			} else if len(held) == r.Len() && r.Take(n) != want {
				t.Fatal("Take")
			}
			held = held[len(want):]
			if !same(r, held, most) {
				t.Fatal("held", held)
			}
		}
	}
}
