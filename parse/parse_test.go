package parse

import (
	"slices"
	"strings"
	"testing"

	"repartee/api"
	"repartee/prog"
)

// full is a script of all that may stand in one, with idle lines.
const full = `# a script

script full never 7
label top
send "hello\n"
expect 10
on "ok" next

# between
on "no*" top
timeout bad
eof end
label next
label also
pause 0
goto also
expect never
done
label bad
fail
label end`

// P14.1: what lines say.
func TestParse(t *testing.T) {
	want := api.Prog{Name: "full", Deadline: api.Never, Jumps: 7, Ops: []api.Op{
		{Kind: api.OpSend, Text: "hello\n"},
		{Kind: api.OpExpect, N: 10, Arms: []api.Arm{{Pattern: "ok", To: 2}, {Pattern: "no*", To: 0}}, OnTimeout: 6, OnEof: 7},
		{Kind: api.OpPause},
		{Kind: api.OpGoto, To: 2},
		{Kind: api.OpExpect, N: api.Never, OnTimeout: -1, OnEof: -1},
		{Kind: api.OpDone},
		{Kind: api.OpFail},
	}}
	for _, s := range []string{full, full + "\n", full + "\n# end\n\n"} {
		if p, spot, e := Parse(s); !prog.Same(p, want) || spot != (api.Spot{}) || e != api.OK {
			t.Error(p, spot, e)
		}
	}
	for text, want := range map[string]api.Prog{
		"script a 9 0": {Name: "a", Deadline: 9}, "script a never 3\nsend \"x\"": {Name: "a", Deadline: api.Never, Jumps: 3, Ops: []api.Op{{Kind: api.OpSend, Text: "x"}}},
		"script a 1000000000000 1000\nexpect 1000000000000\npause 1000000000000": {Name: "a", Deadline: api.MaxTicks, Jumps: 1000, Ops: []api.Op{{Kind: api.OpExpect, N: api.MaxTicks, OnTimeout: -1, OnEof: -1}, {Kind: api.OpPause, N: api.MaxTicks}}},
		"script a 1 0\nexpect 0\neof x\ntimeout x\non \"\\x41\" x\nlabel x":      {Name: "a", Deadline: 1, Ops: []api.Op{{Kind: api.OpExpect, Arms: []api.Arm{{Pattern: "A", To: 1}}, OnTimeout: 1, OnEof: 1}}},
		"script a 1 0\ngoto script\nlabel script\nlabel on":                      {Name: "a", Deadline: 1, Ops: []api.Op{{Kind: api.OpGoto, To: 1}}},
	} {
		if p, spot, e := Parse(text); !prog.Same(p, want) || spot != (api.Spot{}) || e != api.OK {
			t.Errorf("%q: %v %v %d", text, p, spot, e)
		}
	}
}

// P14.2: what is wrong, and where.
func TestWrong(t *testing.T) {
	const head = "script a 9 0\n"
	long := strings.Repeat("x", 257)
	for _, x := range []struct {
		text      string
		line, col int
		e         api.Errno
	}{
		// Nothing said, and words.
		{"", 1, 1, api.ErrEnd}, {"# a\n\n#b", 1, 1, api.ErrEnd}, {head + " goto x", 2, 1, api.ErrForm}, {head + "send  \"x\"", 2, 6, api.ErrForm}, {head + "send \"x", 2, 8, api.ErrEnd}, {head + "send \"\\q\"", 2, 8, api.ErrForm}, {head + "#" + strings.Repeat("x", 1300), 0, 0, api.OK}, {head + "send \"" + strings.Repeat("x", 1300), 2, 1201, api.ErrLong}, {head + "done\r", 2, 5, api.ErrForm},
		// First words.
		{"send \"x\"", 1, 1, api.ErrWord}, {"\n#\nfoo", 3, 1, api.ErrWord}, {"\"script\" a 9 0", 1, 1, api.ErrWord}, {head + "script b 9 0", 2, 1, api.ErrWord}, {head + "foo", 2, 1, api.ErrWord}, {head + "\"done\"", 2, 1, api.ErrWord}, {head + "Done", 2, 1, api.ErrWord}, {head + "script", 2, 1, api.ErrWord}, {"on \"a\" b", 1, 1, api.ErrWord},
		// The head.
		{"script", 1, 7, api.ErrEnd}, {"script a", 1, 9, api.ErrEnd}, {"script a 9", 1, 11, api.ErrEnd}, {"script a 9 0 x", 1, 14, api.ErrForm}, {"script A", 1, 8, api.ErrName}, {"script \"a\" x", 1, 8, api.ErrForm}, {"script 9 9 0", 1, 8, api.ErrName}, {"script a x 0 x", 1, 10, api.ErrForm}, {"script a 0 x", 1, 10, api.ErrRange}, {"script a \"9\" 0", 1, 10, api.ErrForm}, {"script a 1000000000001 0", 1, 10, api.ErrRange}, {"script a 9223372036854775807 0", 1, 10, api.ErrRange}, {"script a 9 1001", 1, 12, api.ErrRange}, {"script a 9 never", 1, 12, api.ErrRange}, {"script a 9 -1", 1, 12, api.ErrForm}, {"script a 09 0", 1, 10, api.ErrForm},
		// Ops.
		{head + "send", 2, 5, api.ErrEnd}, {head + "send x", 2, 6, api.ErrForm}, {head + "send \"\" x", 2, 6, api.ErrEmpty}, {head + "send \"" + long + "\"", 2, 6, api.ErrLong}, {head + "send \"" + long[1:] + "\" x", 2, 265, api.ErrForm}, {head + "send \"x\" \"y\"", 2, 10, api.ErrForm},
		{head + "expect", 2, 7, api.ErrEnd}, {head + "expect x", 2, 8, api.ErrForm}, {head + "expect 1000000000001", 2, 8, api.ErrRange}, {head + "expect 5 5", 2, 10, api.ErrForm}, {head + "pause", 2, 6, api.ErrEnd}, {head + "pause never", 2, 7, api.ErrRange}, {head + "pause 1000000000001", 2, 7, api.ErrRange}, {head + "done x", 2, 6, api.ErrForm}, {head + "fail \"\"", 2, 6, api.ErrForm},
		{head + "goto", 2, 5, api.ErrEnd}, {head + "goto \"x\"", 2, 6, api.ErrForm}, {head + "goto X", 2, 6, api.ErrName}, {head + "goto x y", 2, 8, api.ErrForm}, {head + "goto b", 2, 6, api.ErrLabel}, {head + "label", 2, 6, api.ErrEnd}, {head + "label 1x", 2, 7, api.ErrName}, {head + "label x\nlabel x", 3, 7, api.ErrDup}, {head + "label x\nlabel x y", 3, 7, api.ErrDup}, {head + "label x y", 2, 9, api.ErrForm}, {head + "label abcdefghijklmnopq", 2, 7, api.ErrName},
		// Arms.
		{head + "on \"a\" b", 2, 1, api.ErrState}, {head + "timeout b", 2, 1, api.ErrState}, {head + "eof", 2, 1, api.ErrState}, {head + "expect 5\nlabel b\non \"a\" b", 4, 1, api.ErrState}, {head + "expect 5\ndone\ntimeout b", 4, 1, api.ErrState}, {head + "expect 5\n#\n\non \"a\"", 5, 7, api.ErrEnd}, {head + "expect 5\non", 3, 3, api.ErrEnd}, {head + "expect 5\non a b", 3, 4, api.ErrForm}, {head + "expect 5\non \"\" b", 3, 4, api.ErrEmpty}, {head + "expect 5\non \"**\" B", 3, 4, api.ErrEmpty}, {head + "expect 5\non \"]\" b", 3, 4, api.ErrForm}, {head + "expect 5\non \"a%\" b", 3, 4, api.ErrEnd}, {head + "expect 5\non \"[b-a]\" b", 3, 4, api.ErrRange}, {head + "expect 5\non \"" + strings.Repeat("x", 65) + "\" b", 3, 4, api.ErrLong}, {head + "expect 5\non \"" + strings.Repeat("x", 61) + "\" b", 3, 4, api.ErrLong}, {head + "expect 5\non \"" + strings.Repeat("]", 65) + "\" b", 3, 4, api.ErrLong}, {head + "expect 5\non \"" + strings.Repeat("%x", 4) + strings.Repeat("x", 56) + "\" b\nlabel b", 0, 0, api.OK}, {head + "expect 5\non \"a\" \"b\"", 3, 8, api.ErrForm}, {head + "expect 5\non \"a\" b c", 3, 10, api.ErrForm}, {head + "expect 5\non \"a\" B", 3, 8, api.ErrName},
		{head + "expect 5\ntimeout b\ntimeout b", 4, 1, api.ErrDup}, {head + "expect 5\neof b\non \"a\" b\neof", 5, 1, api.ErrDup}, {head + "expect 5\ntimeout b c", 3, 11, api.ErrForm}, {head + "expect 5\ntimeout 5", 3, 9, api.ErrName}, {head + "expect 5" + strings.Repeat("\non \"a\" b", 8) + "\non", 11, 1, api.ErrLong},
		// Too many ops, and labels that stand nowhere.
		{head + strings.Repeat("done\n", 200) + "done x", 202, 1, api.ErrLong}, {head + strings.Repeat("done\n", 200) + "foo", 202, 1, api.ErrWord}, {head + strings.Repeat("done\n", 200) + "label x", 0, 0, api.OK}, {head + "expect 5\non \"a\" b\ntimeout c\nlabel b\ngoto d", 4, 9, api.ErrLabel}, {head + "expect 5\neof c\non \"a\" b", 3, 5, api.ErrLabel}, {head + "expect 5\non \"a\" b", 3, 8, api.ErrLabel}, {head + "goto b\ngoto", 3, 5, api.ErrEnd},
	} {
		p, spot, e := Parse(x.text)
		if spot != (api.Spot{Line: x.line, Col: x.col}) || e != x.e {
			t.Errorf("%q: %v %d, want %d:%d %d", x.text, spot, e, x.line, x.col, x.e)
		}
		if e != api.OK && !prog.Same(p, api.Prog{}) {
			t.Errorf("%q: a script beside an error", x.text)
		}
	}
}

// P14.3: what is parsed is good, whatever lines there are.
func TestGood(t *testing.T) {
	lines := strings.Split(full, "\n")
	n := 0
	for i := range lines {
		for j := range lines {
			l := slices.Clone(lines)
			l[i], l[j] = l[j], l[i]
			for _, text := range []string{strings.Join(l, "\n"), strings.Join(l[:max(i, 3)], "\n")} {
				if p, _, e := Parse(text); e == api.OK {
					n++
					if !prog.Good(p) {
						t.Fatal(text)
					}
				}
			}
		}
	}
	if n < 20 {
		t.Error("too few were parsed", n)
	}
}
