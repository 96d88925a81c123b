package quote

import (
	"fmt"
	"strings"
	"testing"

	"repartee/api"
)

// all is a text of all bytes.
func all() string {
	var b []byte
	for i := range 256 {
		b = append(b, byte(i))
	}
	return string(b)
}

// P2.1: Quote.
func TestQuote(t *testing.T) {
	for i := range 256 {
		want := ""
		switch i {
		case '"', '\\':
			want = `\` + string(rune(i))
		case 10:
			want = `\n`
		case 13:
			want = `\r`
		case 9:
			want = `\t`
		default:
			want = string(rune(i))
			if i < 32 || i > 126 {
				want = fmt.Sprintf(`\x%02x`, i)
			}
		}
		if got := Quote(string([]byte{byte(i)})); got != `"`+want+`"` {
			t.Error(i, got, want)
		}
	}
	if Quote("") != `""` || Quote("a\n\xff") != `"a\n\xff"` || len(Quote("a\n\xff")) != 9 {
		t.Error("examples")
	}
}

// P2.2: Read.
func TestRead(t *testing.T) {
	for s, want := range map[string]string{`""`: "", `"a" x`: "a", `"\x41\x00\xff"`: "A\x00\xff", `"\n\r\t\"\\"zz`: "\n\r\t\"\\", `"\x0a"`: "\n", `" ~"`: " ~", `"\x22"`: `"`} {
		got, n, e := Read(s)
		if got != want || e != api.OK || n != strings.LastIndexByte(s, '"')+1 {
			t.Errorf("%s: %q %d %d", s, got, n, e)
		}
	}
	for _, x := range []struct {
		s  string
		at int
		e  api.Errno
	}{
		{"", 0, api.ErrEnd}, {"a", 0, api.ErrForm}, {" \"a\"", 0, api.ErrForm}, {`"`, 1, api.ErrEnd}, {`"abc`, 4, api.ErrEnd},
		{`"\`, 2, api.ErrEnd}, {`"\q`, 2, api.ErrForm}, {`"\q"`, 2, api.ErrForm}, {`"\x`, 3, api.ErrEnd}, {`"\x0`, 4, api.ErrEnd}, {`"\x00`, 5, api.ErrEnd},
		{`"\xg0"`, 3, api.ErrForm}, {`"\x0g"`, 4, api.ErrForm}, {`"\xA0"`, 3, api.ErrForm}, {`"\x0F"`, 4, api.ErrForm}, {`"\x"`, 3, api.ErrForm},
		{"\"a\n\"", 2, api.ErrForm}, {"\"\x1f\"", 1, api.ErrForm}, {"\"\x7f\"", 1, api.ErrForm}, {"\"\x80\"", 1, api.ErrForm}, {"\"\xff\"", 1, api.ErrForm}, {`"\N"`, 2, api.ErrForm},
	} {
		if got, n, e := Read(x.s); got != "" || n != x.at || e != x.e {
			t.Errorf("%q: %q %d %d", x.s, got, n, e)
		}
	}
}

// P2.3: Whole.
func TestWhole(t *testing.T) {
	if s, e := Whole(`"a\x62"`); s != "ab" || e != api.OK {
		t.Error(s, e)
	}
	for s, want := range map[string]api.Errno{"": api.ErrEnd, `"a`: api.ErrEnd, `"a" `: api.ErrForm, `"a""`: api.ErrForm, `a`: api.ErrForm, `"\q"`: api.ErrForm} {
		if got, e := Whole(s); got != "" || e != want {
			t.Errorf("%q: %q %d", s, got, e)
		}
	}
}

// P2.4: Read of Quote, and Quote of what is read.
func TestLaws(t *testing.T) {
	for _, s := range []string{"", "a", all(), all() + all(), `\x41`, `"\"`} {
		for _, behind := range []string{"", `"`, "x", `\`, "\n"} {
			if got, n, e := Read(Quote(s) + behind); got != s || n != len(Quote(s)) || e != api.OK {
				t.Errorf("%q %q: %q %d %d", s, behind, got, n, e)
			}
		}
	}
	for _, s := range []string{`"\x41\x0a"`, `"\x22\x5c"`, `"plain"`} {
		a, _, _ := Read(s)
		if b, _, e := Read(Quote(a)); a != b || e != api.OK {
			t.Errorf("%s: %q %q", s, a, b)
		}
	}
}
