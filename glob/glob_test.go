package glob

import (
	"math/rand"
	"slices"
	"strings"
	"testing"

	"repartee/api"
	"repartee/class"
)

var run = api.Item{Run: true}

// of is an item of the set of the bytes of s.
func of(s string) api.Item { return api.Item{Set: class.Of(s)} }

// all is the item of all bytes.
var all = api.Item{Set: api.Set{1<<64 - 1, 1<<64 - 1, 1<<64 - 1, 1<<64 - 1}}

// P7.1: Good and Same.
func TestGoodSame(t *testing.T) {
	if !Good(nil) || !Good([]api.Item{run, of("a"), of(""), all}) || !Good(make([]api.Item, 60)) || Good(make([]api.Item, 61)) || Good([]api.Item{of("a"), {Run: true, Set: class.Of("a")}}) {
		t.Error("Good")
	}
	if !Same(nil, []api.Item{}) || !Same([]api.Item{run, of("a")}, []api.Item{run, of("a")}) || Same([]api.Item{run}, nil) || Same([]api.Item{run, of("a")}, []api.Item{of("a"), run}) || Same([]api.Item{of("")}, []api.Item{run}) || Same([]api.Item{of("a")}, []api.Item{of("a"), of("a")}) {
		t.Error("Same")
	}
}

// P7.2: Parse.
func TestParse(t *testing.T) {
	for p, want := range map[string][]api.Item{
		"": nil, "*": {run}, "?": {all}, "a*[0-9]%*": {of("a"), run, of("0123456789"), of("*")}, "%]%%%a": {of("]"), of("%"), of("a")}, "[^\x00-\xff]": {of("")}, "-^\x00\xff": {of("-"), of("^"), of("\x00"), of("\xff")}, "[%]a]b": {of("]a"), of("b")}, "**": {run, run}, "[a][b]": {of("a"), of("b")},
	} {
		if l, n, e := Parse(p); !slices.Equal(l, want) || n != 0 || e != api.OK {
			t.Errorf("%q: %v %d %d", p, l, n, e)
		}
	}
	long := strings.Repeat("a", 60)
	if l, n, e := Parse(long); len(l) != 60 || n != 0 || e != api.OK {
		t.Error("60 items", n, e)
	}
	for _, x := range []struct {
		p  string
		at int
		e  api.Errno
	}{
		{"]", 0, api.ErrForm}, {"ab]", 2, api.ErrForm}, {"%", 1, api.ErrEnd}, {"ab%", 3, api.ErrEnd}, {"a[", 2, api.ErrEnd}, {"a[]", 2, api.ErrForm}, {"a[b-a]", 4, api.ErrRange}, {"a[b-%a]x", 5, api.ErrRange}, {"[a", 2, api.ErrEnd}, {"[a]]", 3, api.ErrForm},
		{long + "a", 60, api.ErrLong}, {long + "]", 60, api.ErrLong}, {long + "%", 60, api.ErrLong}, {long + "[", 60, api.ErrLong}, {"%a" + long[1:] + "*", 61, api.ErrLong}, {strings.Repeat("[ab]", 60) + "x", 240, api.ErrLong},
	} {
		if l, n, e := Parse(x.p); len(l) != 0 || n != x.at || e != x.e {
			t.Errorf("%q: %v %d %d", x.p, l, n, e)
		}
	}
}

// P7.3: Print and Plain.
func TestPrintPlain(t *testing.T) {
	for want, l := range map[string][]api.Item{"": nil, "*?a": {run, all, of("a")}, "%*%?%[%]%%^-": {of("*"), of("?"), of("["), of("]"), of("%"), of("^"), of("-")}, "[ab][a-c]": {of("ab"), of("abc")}, "[^\x00-\xff]": {of("")}, "[^a]": {{Set: class.Not(class.Of("a"))}}} {
		if got, e := Print(l); got != want || e != api.OK {
			t.Errorf("%q %d want %q", got, e, want)
		}
	}
	for _, l := range [][]api.Item{make([]api.Item, 61), {{Run: true, Set: class.Of("a")}}} {
		if got, e := Print(l); got != "" || e != api.ErrForm {
			t.Error(got, e)
		}
	}
	if Plain("") != "" || Plain("a*?[]%^-\xff\x00") != "a%*%?%[%]%%^-\xff\x00" || Plain(strings.Repeat("*", 99)) != strings.Repeat("%*", 99) {
		t.Error("Plain")
	}
}

// P7.4: Parse of Print is the pattern; Parse of Plain is a set of one byte each.
func TestLaws(t *testing.T) {
	random := rand.New(rand.NewSource(7))
	for range 500 {
		var l []api.Item
		for range random.Intn(12) {
			switch random.Intn(4) {
			case 0:
				l = append(l, run)
			case 1:
				l = append(l, of(string([]byte{byte(random.Intn(256))})))
			case 2:
				l = append(l, all)
			default:
				x := class.Span(byte(random.Intn(256)), byte(random.Intn(256)))
				if random.Intn(2) == 0 {
					x = class.Not(x)
				}
				l = append(l, api.Item{Set: x})
			}
		}
		p, _ := Print(l)
		if got, n, e := Parse(p); !Same(got, l) || n != 0 || e != api.OK {
			t.Fatalf("%q: %v %d %d", p, got, n, e)
		}
	}
	for b := range 256 {
		s := string([]byte{byte(b)})
		if l, _, e := Parse(Plain(s + "x")); !slices.Equal(l, []api.Item{of(s), of("x")}) || e != api.OK {
			t.Errorf("%q %v %d", s, l, e)
		}
	}
}
