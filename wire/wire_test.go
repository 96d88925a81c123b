package wire

import (
	"math/rand"
	"strings"
	"testing"

	"repartee/api"
)

// stands tells whether w stands so, by all that it tells.
func stands(w *Wire, held string, ended bool, sent, read int) bool {
	return w.Peek(1<<40) == held && w.Len() == len(held) && w.Eof() == ended && w.Over() == (ended && held == "") && w.Sent() == sent && w.Read() == read
}

// P25.1: New and Offer.
func TestOffer(t *testing.T) {
	w := New()
	if !stands(w, "", false, 0, 0) || !w.Offer("ab", false) || !w.Offer("", false) || !stands(w, "ab", false, 2, 0) {
		t.Error("Offer")
	}
	long := strings.Repeat("x", api.MaxOffer)
	if w.Offer(long+"x", true) || !stands(w, "ab", false, 2, 0) || !w.Offer(long, true) || !stands(w, "ab"+long, true, api.MaxOffer+2, 0) {
		t.Error("too long")
	}
	if w.Offer("c", false) || w.Offer("", true) || w.Offer("", false) || !stands(w, "ab"+long, true, api.MaxOffer+2, 0) {
		t.Error("behind the end")
	}
	if e := New(); !e.Offer("", true) || !stands(e, "", true, 0, 0) {
		t.Error("ended at once")
	}
}

// P25.2: Take, Peek, Len, Eof, Over, Sent, Read, Drop, and a nil wire.
func TestTake(t *testing.T) {
	w := New()
	w.Offer("ab", false)
	w.Offer("c", true)
	if w.Peek(-1) != "" || w.Peek(0) != "" || w.Peek(2) != "ab" || w.Take(-1<<62) != "" || w.Take(0) != "" || !stands(w, "abc", true, 3, 0) {
		t.Error("nothing")
	}
	if w.Take(2) != "ab" || !stands(w, "c", true, 3, 2) || w.Take(5) != "c" || !stands(w, "", true, 3, 3) || w.Take(1) != "" || w.Offer("d", false) {
		t.Error("example")
	}
	v := New()
	v.Offer("abc", false)
	v.Take(1)
	if v.Drop() != 2 || !stands(v, "", true, 3, 1) || v.Drop() != 0 || v.Offer("x", false) || v.Take(1) != "" {
		t.Error("Drop")
	}
	var none *Wire
	if none.Offer("", false) || none.Take(1) != "" || !stands(none, "", false, 0, 0) || none.Drop() != 0 {
		t.Error("nil")
	}
}

// P25.3: what is read is what came; what is Over stays so.
func TestLaws(t *testing.T) {
	random := rand.New(rand.NewSource(25))
	for range 500 {
		w := New()
		came, read, over := "", "", false
		for range 40 {
			b := make([]byte, random.Intn(6))
			random.Read(b)
			if random.Intn(2) == 0 {
				if w.Offer(string(b), random.Intn(15) == 0) {
					came += string(b)
				}
			} else {
				read += w.Take(random.Intn(7) - 1)
			}
			if read+w.Peek(1<<40) != came || w.Sent() != len(came) || w.Read() != len(read) || over && !w.Over() {
				t.Fatal(came, read)
			}
			over = w.Over()
		}
	}
}
