package class

import (
	"math/rand"
	"testing"

	"repartee/api"
)

// some are sets of all kinds.
func some() []api.Set {
	random := rand.New(rand.NewSource(6))
	l := []api.Set{{}, Not(api.Set{}), Of("a"), Not(Of("a")), Of("%]-^"), Not(Of("%]-^")), Of("abcx"), Of("ab"), Of("\x00\x01\xfe\xff"), Span(0, 127), Span(0, 128), Span(1, 255), Span('^', '^'+2), Span('+', '-'), Of("[*?^")}
	for n := range 60 {
		var x api.Set
		for range 1 + n*n/6 {
			x = with(x, byte(random.Intn(256)))
		}
		l = append(l, x)
	}
	return l
}

// P6.1: Of, Span, Has, Not, Or, And, Len, Bytes.
func TestSets(t *testing.T) {
	if Of("") != (api.Set{}) || Of("\x00") != (api.Set{1}) || Of("\x40A\x41") != (api.Set{0, 3}) || Of("\xff") != (api.Set{0, 0, 0, 1 << 63}) {
		t.Error("Of")
	}
	for from := 0; from < 256; from += 15 {
		for to := 0; to < 256; to += 17 {
			x := Span(byte(from), byte(to))
			for b := range 256 {
				if Has(x, byte(b)) != (from <= b && b <= to) {
					t.Fatal("Span", from, to, b)
				}
			}
		}
	}
	l := some()
	for _, x := range l {
		n, bytes := 0, ""
		for b := range 256 {
			in := x[b/64]&(1<<(b%64)) != 0
			if Has(x, byte(b)) != in || Has(Not(x), byte(b)) == in {
				t.Fatal("Has", x, b)
			}
			if in {
				n++
				bytes += string([]byte{byte(b)})
			}
		}
		if Len(x) != n || Bytes(x) != bytes || Of(bytes) != x {
			t.Error("Len", x)
		}
		for _, y := range l {
			for b := range 256 {
				if Has(Or(x, y), byte(b)) != (Has(x, byte(b)) || Has(y, byte(b))) || Has(And(x, y), byte(b)) != (Has(x, byte(b)) && Has(y, byte(b))) {
					t.Fatal("Or, And", x, y, b)
				}
			}
		}
	}
}

// P6.2: Read.
func TestRead(t *testing.T) {
	for s, want := range map[string]api.Set{"[a-c%]]": Of("abc]"), "[^a]": Not(Of("a")), "[a^]": Of("a^"), "[%^a]": Of("^a"), "[^^]": Not(Of("^")), "[[]": Of("["), "[%%]": Of("%"), "[%a]": Of("a"), "[*?]": Of("*?"),
		"[%--a]": Span('-', 'a'), "[+-%-]": Span('+', '-'), "[a-a]": Of("a"), "[\x00-\xff]": Not(api.Set{}), "[^\x00-\xff]": {}, "[ab-dx]": Of("abcdx"), "[aa]": Of("a"), "[a-cb-e]": Of("abcde"), "[\"\\]": Of(`"\`)} {
		x, n, e := Read(s + "x]")
		if x != want || n != len(s) || e != api.OK {
			t.Error(s, x, n, e)
		}
	}
	for _, x := range []struct {
		s  string
		at int
		e  api.Errno
	}{
		{"", 0, api.ErrEnd}, {"a", 0, api.ErrForm}, {"]", 0, api.ErrForm}, {"[", 1, api.ErrEnd}, {"[^", 2, api.ErrEnd}, {"[]", 1, api.ErrForm}, {"[^]", 2, api.ErrForm}, {"[]a]", 1, api.ErrForm},
		{"[-", 1, api.ErrForm}, {"[a", 2, api.ErrEnd}, {"[a-", 3, api.ErrEnd}, {"[a-]", 3, api.ErrForm}, {"[a--]", 3, api.ErrForm}, {"[a-b-c]", 4, api.ErrForm}, {"[^-a]", 2, api.ErrForm}, {"[a-%]]", 4, api.ErrRange}, {"[%", 2, api.ErrEnd}, {"[a%", 3, api.ErrEnd}, {"[a-%", 4, api.ErrEnd},
		{"[b-a]", 3, api.ErrRange}, {"[b-a", 3, api.ErrRange}, {"[b-%a]", 4, api.ErrRange}, {"[%b-%a]", 5, api.ErrRange}, {"[^b-a]", 4, api.ErrRange}, {"[xyb-a]", 5, api.ErrRange}, {"[a-c", 4, api.ErrEnd},
	} {
		if set, n, e := Read(x.s); set != (api.Set{}) || n != x.at || e != x.e {
			t.Errorf("%q: %v %d %d", x.s, set, n, e)
		}
	}
}

// P6.3: Print.
func TestPrint(t *testing.T) {
	for _, x := range []struct {
		set  api.Set
		want string
	}{
		{Of("abcx"), "[a-cx]"}, {Of("ab"), "[ab]"}, {Of("abc"), "[a-c]"}, {Of("a"), "[a]"}, {Of("abde"), "[abde]"}, {Of("abdef"), "[abd-f]"}, {Of("%]-^"), "[%%%-%]%^]"}, {Of("^_`"), "[%^-`]"}, {Of("+,-"), "[+-%-]"}, {Of("[\\]"), "[[-%]]"},
		{api.Set{}, "[^\x00-\xff]"}, {Not(api.Set{}), "[\x00-\xff]"}, {Span(0, 127), "[\x00-\x7f]"}, {Span(0, 128), "[^\x81-\xff]"}, {Not(Of("a")), "[^a]"}, {Not(Of("^")), "[^%^]"}, {Span(128, 255), "[\x80-\xff]"}, {Span(127, 255), "[^\x00-~]"}, {Of("\xfd\xfe\xff"), "[\xfd-\xff]"}, {Of("\xfe\xff"), "[\xfe\xff]"}, {Of("*?["), "[*?[]"},
	} {
		if got := Print(x.set); got != x.want {
			t.Errorf("%q want %q", got, x.want)
		}
	}
}

// P6.4: Read of Print is the set; the laws of sets.
func TestLaws(t *testing.T) {
	l := some()
	for _, x := range l {
		for _, behind := range []string{"", "x", "]", "-z]", "%"} {
			if got, n, e := Read(Print(x) + behind); got != x || n != len(Print(x)) || e != api.OK {
				t.Errorf("%q: %v %d %d", Print(x), got, n, e)
			}
		}
		if Not(Not(x)) != x || Or(x, Not(x)) != Span(0, 255) || And(x, Not(x)) != (api.Set{}) || Len(x)+Len(Not(x)) != 256 {
			t.Error("Not", x)
		}
		for _, y := range l {
			if Not(Or(x, y)) != And(Not(x), Not(y)) || Or(x, y) != Or(y, x) || And(x, Or(x, y)) != x || Len(Or(x, y))+Len(And(x, y)) != Len(x)+Len(y) {
				t.Error("laws", x, y)
			}
		}
	}
}
