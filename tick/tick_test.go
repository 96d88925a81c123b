package tick

import (
	"math/big"
	"strings"
	"testing"

	"repartee/api"
)

// some are ticks of all kinds, those that may not be too.
var some = []int64{-1 << 63, -7, -1, 0, 1, 2, 9, 10, 1 << 31, 1 << 40, api.Never / 2, api.Never/2 + 1, api.Never - 2, api.Never - 1, api.Never}

// whole is t as a number of any size, brought to what a tick may be.
func whole(t int64) *big.Int { return big.NewInt(max(t, 0)) }

// capped is n, Never at most.
func capped(n *big.Int) int64 {
	if n.Cmp(big.NewInt(api.Never)) > 0 {
		return api.Never
	}
	return n.Int64()
}

// P1.1: Own, Add, Times, Left.
func TestOwnAddTimesLeft(t *testing.T) {
	for _, a := range some {
		if want := whole(a).Int64(); Own(a) != want {
			t.Error("Own", a, Own(a), want)
		}
		for _, b := range some {
			if want := capped(new(big.Int).Add(whole(a), whole(b))); Add(a, b) != want {
				t.Error("Add", a, b, Add(a, b), want)
			}
			want := capped(new(big.Int).Mul(whole(a), whole(b)))
			if b < 1 {
				want = 0
			}
			if Times(a, int(b)) != want {
				t.Error("Times", a, b, Times(a, int(b)), want)
			}
			left := new(big.Int).Sub(whole(a), whole(b))
			if left.Sign() < 0 {
				left.SetInt64(0)
			}
			if a == api.Never {
				left.SetInt64(api.Never)
			}
			if Left(a, b) != left.Int64() {
				t.Error("Left", a, b, Left(a, b), left)
			}
		}
	}
	if Add(api.Never-1, 1) != api.Never || Add(api.Never-2, 1) != api.Never-1 || Times(3, 4) != 12 || Times(api.Never, 0) != 0 {
		t.Error("examples")
	}
}

// P1.2: Due and Least.
func TestDueLeast(t *testing.T) {
	for _, a := range some {
		for _, b := range some {
			if want := a != api.Never && whole(b).Cmp(whole(a)) >= 0; Due(a, b) != want {
				t.Error("Due", a, b)
			}
			if want := min(Own(a), Own(b)); Least(a, b) != want || Least(a, b, api.Never) != want {
				t.Error("Least", a, b, Least(a, b))
			}
		}
		if Least(a) != Own(a) {
			t.Error("Least of one", a)
		}
	}
	if Least() != api.Never || Least(nil...) != api.Never || Due(api.Never, api.Never) {
		t.Error("edges")
	}
}

// P1.3: Text and Parse.
func TestTextParse(t *testing.T) {
	for _, a := range some {
		want := big.NewInt(Own(a)).String()
		if a == api.Never {
			want = "never"
		}
		if Text(a) != want {
			t.Error("Text", a, Text(a))
		}
		if n, e := Parse(want); n != Own(a) || e != api.OK {
			t.Error("Parse", want, n, e)
		}
	}
	for _, s := range []string{"", " ", "00", "01", "-0", "-1", "+1", "1 ", " 1", "1x", "0x1", "Never", "never ", "neve", "1_0", "٣", strings.Repeat("9", 40) + "x", "0" + strings.Repeat("9", 40)} {
		if n, e := Parse(s); n != 0 || e != api.ErrForm {
			t.Error(s, n, e)
		}
	}
	for _, s := range []string{"9223372036854775807", "9223372036854775808", "18446744073709551616", "18446744073709551617", "10000000000000000000", strings.Repeat("1", 5000)} {
		if n, e := Parse(s); n != 0 || e != api.ErrRange {
			t.Error(s, n, e)
		}
	}
	if n, e := Parse("9223372036854775806"); n != api.Never-1 || e != api.OK {
		t.Error(n, e)
	}
}

// P1.4: Add never falls, and is the same in whatever order; what is Due stays so; Parse of Text.
func TestLaws(t *testing.T) {
	for _, a := range some {
		for _, b := range some {
			if Add(a, b) != Add(b, a) {
				t.Error("order", a, b)
			}
			for _, c := range some {
				if Add(Add(a, b), c) != Add(a, Add(b, c)) {
					t.Error("brackets", a, b, c)
				}
				if b <= c && Add(a, b) > Add(a, c) {
					t.Error("falls", a, b, c)
				}
				if b <= c && Due(a, b) && !Due(a, c) {
					t.Error("due no more", a, b, c)
				}
			}
		}
		if n, e := Parse(Text(a)); n != Own(a) || e != api.OK {
			t.Error("Parse of Text", a, n, e)
		}
	}
}
