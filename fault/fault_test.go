package fault

import (
	"errors"
	"testing"

	"repartee/api"
)

// other is an error that is none of ours.
var other = errors.New("other")

// P16.1: New, Within, Unwrap.
func TestNewWithin(t *testing.T) {
	spot := api.Spot{Line: 2, Col: 6}
	a, ok := New(spot, api.ErrLabel).(*At)
	if !ok || a.Spot != spot || a.Err != api.ErrLabel || a.Unwrap() != api.ErrLabel {
		t.Error("New")
	}
	if New(spot, api.OK) != nil || Within("a", nil) != nil {
		t.Error("nil")
	}
	i, ok := Within("a", other).(*In)
	if !ok || i.Name != "a" || i.Err != other || i.Unwrap() != other {
		t.Error("Within")
	}
	if i, ok := Within("a", api.OK).(*In); !ok || i.Err != api.OK {
		t.Error("Within OK")
	}
	if (&At{}).Unwrap() != nil || (*At)(nil).Unwrap() != nil || (*In)(nil).Unwrap() != nil {
		t.Error("Unwrap of nil")
	}
}

// P16.2: Is, Code, Where, Who.
func TestAsked(t *testing.T) {
	at, in := api.Spot{Line: 1, Col: 2}, "x"
	for i, x := range []struct {
		err   error
		code  api.Errno
		where api.Spot
		there bool
		who   string
		named bool
	}{
		{nil, api.OK, api.Spot{}, false, "", false},
		{api.ErrForm, api.ErrForm, api.Spot{}, false, "", false},
		{api.Errno(-7), -7, api.Spot{}, false, "", false},
		{api.OK, api.ErrArg, api.Spot{}, false, "", false},
		{other, api.ErrArg, api.Spot{}, false, "", false},
		{New(at, api.ErrDup), api.ErrDup, at, true, "", false},
		{Within(in, New(at, api.ErrDup)), api.ErrDup, at, true, in, true},
		{&At{Spot: at, Err: Within(in, api.ErrEnd)}, api.ErrEnd, at, true, in, true},
		{Within("y", Within(in, other)), api.ErrArg, api.Spot{}, false, "y", true},
		{&At{Spot: at, Err: &At{Spot: api.Spot{Line: 9}, Err: nil}}, api.ErrArg, at, true, "", false},
		{&At{}, api.ErrArg, api.Spot{}, true, "", false},
		{Within("", api.ErrForm), api.ErrForm, api.Spot{}, false, "", true},
	} {
		where, there := Where(x.err)
		who, named := Who(x.err)
		if Code(x.err) != x.code || where != x.where || there != x.there || who != x.who || named != x.named {
			t.Error(i, Code(x.err), where, there, who, named)
		}
		for e := api.Errno(-8); e < 15; e++ {
			want := x.err != nil && e == x.code && e != api.OK && !(x.code == api.ErrArg && i != 0)
			if Is(x.err, e) != want {
				t.Error(i, "Is", e)
			}
		}
	}
	if !Is(api.ErrArg, api.ErrArg) || Code(New(at, api.ErrArg)) != api.ErrArg || !Is(New(at, api.ErrArg), api.ErrArg) || Is(api.OK, api.OK) || Is(nil, api.OK) {
		t.Error("ErrArg, OK")
	}
}

// wild is an error that panics when it is asked.
type wild struct{}

func (wild) Error() string { panic("Error") }
func (wild) Unwrap() error { panic("Unwrap") }

// P16.2: no call panics, whatever errors there are.
func TestWild(t *testing.T) {
	err := Within("a", wild{})
	_, there := Where(err)
	if Is(err, api.ErrForm) || Code(err) != api.ErrArg || there || Text(err) != "in a: ?" {
		t.Error("wild")
	}
	if name, ok := Who(err); name != "a" || !ok {
		t.Error(name, ok)
	}
	if _, ok := Who(wild{}); ok {
		t.Error("Who")
	}
}

// P16.3: Text and Error.
func TestText(t *testing.T) {
	for want, err := range map[string]error{"": nil, "error 13": api.ErrLabel, "error -2": api.Errno(-2), "?": other, "line 2, column 6: error 13": New(api.Spot{Line: 2, Col: 6}, api.ErrLabel), "in a: line 2, column 6: error 13": Within("a", New(api.Spot{Line: 2, Col: 6}, api.ErrLabel)),
		"line -1, column 0: in : ?": &At{Spot: api.Spot{Line: -1}, Err: Within("", other)}, "in b: ": &In{Name: "b"}, "in c: ?": Within("c", api.OK), "line 0, column 0: ": &At{}} {
		if Text(err) != want {
			t.Errorf("%q want %q", Text(err), want)
		}
		if err != nil && err != other && err.Error() != want {
			t.Errorf("Error: %q want %q", err.Error(), want)
		}
	}
	if Text(api.OK) != "?" {
		t.Error("OK is no plain error")
	}
	_ = (*At)(nil).Error() + (*In)(nil).Error() + Text((*At)(nil)) + Text(Within("x", (*In)(nil)))
	Where((*At)(nil))
	Who((*In)(nil))
	Code((*In)(nil))
}

// P16.4: however often a plain error is wrapped.
func TestWrapped(t *testing.T) {
	for n := range 7 {
		var err error = api.ErrRange
		for k := range 1 << n {
			if k>>(n/2)&1 == 0 {
				err = &At{Spot: api.Spot{Line: k, Col: n}, Err: err}
			} else {
				err = Within(string(rune('a'+k%26)), err)
			}
		}
		if Code(err) != api.ErrRange || !Is(err, api.ErrRange) || Is(err, api.ErrForm) {
			t.Error(n)
		}
		at, there := api.Spot{}, false
		in, named := "", false
		for e := err; e != nil; e = errors.Unwrap(e) {
			if a, ok := e.(*At); ok && !there {
				at, there = a.Spot, true
			}
			if i, ok := e.(*In); ok && !named {
				in, named = i.Name, true
			}
		}
		if a, ok := Where(err); a != at || ok != there {
			t.Error(n, a, ok)
		}
		if i, ok := Who(err); i != in || ok != named {
			t.Error(n, i, ok)
		}
	}
	var deep error = api.ErrEnd
	for range 1 << 16 {
		deep = Within("a", deep)
	}
	if len(Text(deep)) != 6<<16+7 || Code(deep) != api.ErrEnd {
		t.Error("deep", len(Text(deep)))
	}
}
