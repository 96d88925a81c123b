package lex

import (
	"math/rand"
	"slices"
	"strings"
	"testing"

	"repartee/api"
	"repartee/quote"
)

// P12.1: Words.
func TestWords(t *testing.T) {
	for line, want := range map[string][]Word{
		"": nil, "a": {{"a", false, 0}}, `send "a b"`: {{"send", false, 0}, {"a b", true, 5}}, `""`: {{"", true, 0}}, `"a" b "\x20"`: {{"a", true, 0}, {"b", false, 4}, {" ", true, 6}}, "!~# %^": {{"!~#", false, 0}, {"%^", false, 4}}, "#a b": {{"#a", false, 0}, {"b", false, 3}},
		strings.Repeat("x", 1200): {{strings.Repeat("x", 1200), false, 0}},
	} {
		if l, at, e := Words(line); !slices.Equal(l, want) || at != 0 || e != api.OK {
			t.Errorf("%q: %v %d %d", line, l, at, e)
		}
	}
	for _, x := range []struct {
		line string
		at   int
		e    api.Errno
	}{
		{" ", 0, api.ErrForm}, {" a", 0, api.ErrForm}, {"a ", 2, api.ErrEnd}, {"a  b", 2, api.ErrForm}, {"a\tb", 1, api.ErrForm}, {"a\nb", 1, api.ErrForm}, {"\t", 0, api.ErrForm}, {`a"b"`, 1, api.ErrForm}, {`"a"b`, 3, api.ErrForm}, {`"a""b"`, 3, api.ErrForm}, {`a\b`, 1, api.ErrForm}, {`\`, 0, api.ErrForm}, {"a\x7f", 1, api.ErrForm}, {"a \xff", 2, api.ErrForm},
		{`a "`, 3, api.ErrEnd}, {`a "b\q"`, 5, api.ErrForm}, {`a "b\x4`, 7, api.ErrEnd}, {"a \"\x01\"", 3, api.ErrForm}, {`"a" `, 4, api.ErrEnd}, {strings.Repeat("x", 1201), 1200, api.ErrLong}, {strings.Repeat(" ", 1201), 1200, api.ErrLong}, {strings.Repeat("x", 1199) + " ", 1200, api.ErrEnd},
	} {
		if l, at, e := Words(x.line); len(l) != 0 || at != x.at || e != x.e {
			t.Errorf("%q: %v %d %d", x.line, l, at, e)
		}
	}
}

// P12.2: Join, Lines, Idle.
func TestJoinLinesIdle(t *testing.T) {
	if Join() != "" || Join(Word{"a", false, 7}) != "a" || Join(Word{"a", false, 0}, Word{"b \n", true, 0}, Word{"", true, 0}) != `a "b \n" ""` || Join(Word{"", false, 0}, Word{"x y", false, 0}) != " x y" {
		t.Error("Join")
	}
	for s, want := range map[string][]string{"": {""}, "a": {"a"}, "a\n": {"a", ""}, "\n\n": {"", "", ""}, "a\r\nb": {"a\r", "b"}} {
		if !slices.Equal(Lines(s), want) {
			t.Errorf("%q %q", s, Lines(s))
		}
	}
	for s, want := range map[string]bool{"": true, "#": true, "# a": true, " ": false, " #": false, "a": false, "\"#\"": false} {
		if Idle(s) != want {
			t.Errorf("%q", s)
		}
	}
}

// P12.3: Name and Number.
func TestNameNumber(t *testing.T) {
	for s, want := range map[string]bool{"a": true, "z9": true, "a0z": true, "": false, "9a": false, "A": false, "aB": false, "a_b": false, "a b": false, "abcdefghijklmnop": true, "abcdefghijklmnopq": false, "\xe1": false, "a\xe1": false, "`": false, "{": false, "a{": false, "a:": false, "a/": false} {
		if Name(s) != want {
			t.Errorf("%q", s)
		}
	}
	for _, x := range []struct {
		s    string
		most int64
		n    int64
		e    api.Errno
	}{
		{"0", 0, 0, api.OK}, {"7", 7, 7, api.OK}, {"8", 7, 0, api.ErrRange}, {"0", -1, 0, api.ErrRange}, {"never", 7, 0, api.ErrRange}, {"never", api.Never, api.Never, api.OK}, {"never", api.Never - 1, 0, api.ErrRange}, {"9223372036854775806", api.Never, api.Never - 1, api.OK}, {"9223372036854775807", api.Never, 0, api.ErrRange}, {"01", 7, 0, api.ErrForm}, {"", -5, 0, api.ErrForm}, {"x", 0, 0, api.ErrForm}, {"-1", 9, 0, api.ErrForm},
	} {
		if n, e := Number(x.s, x.most); n != x.n || e != x.e {
			t.Error(x, n, e)
		}
	}
}

// P12.4: Words of Join, and Join of Words.
func TestLaws(t *testing.T) {
	random := rand.New(rand.NewSource(12))
	for range 2000 {
		var l []Word
		for range random.Intn(6) {
			var b []byte
			for range random.Intn(8) {
				b = append(b, byte(random.Intn(256)))
			}
			w := Word{Text: string(b), Quoted: true}
			if random.Intn(2) == 0 {
				w = Word{Text: string(rune('!' + 2 + random.Intn(50)))}
			}
			l = append(l, w)
		}
		line := Join(l...)
		got, at, e := Words(line)
		if e != api.OK || at != 0 || len(got) != len(l) {
			t.Fatalf("%q %d %d", line, at, e)
		}
		for i, w := range got {
			want := l[i].Text
			if l[i].Quoted {
				want = quote.Quote(want)
			}
			if w.Text != l[i].Text || w.Quoted != l[i].Quoted || !strings.HasPrefix(line[w.At:], want) {
				t.Fatalf("%q %v", line, w)
			}
		}
		if again := Join(got...); again != line {
			t.Fatalf("%q %q", line, again)
		}
	}
	if l, _, _ := Words(`"\x41" b`); Join(l...) != `"A" b` {
		t.Error("read otherwise")
	}
}
