// Package tick is layer 1: ticks that never run over (see shared/doc/01-tick.md).
package tick

import (
	"strconv"

	"repartee/api"
)

// never is the text of api.Never.
const never = "never"

// Own is a tick that may be: what is below 0 counts as 0.
func Own(t int64) int64 {
	return max(t, 0)
}

// Add is two ticks together, Never at most.
func Add(t, d int64) int64 {
	t, d = Own(t), Own(d)
	if t >= api.Never-d {
		return api.Never
	}
	return t + d
}

// Times is a tick n times, Never at most.
func Times(t int64, n int) int64 {
	t = Own(t)
	if n < 1 || t == 0 {
		return 0
	}
	if t > api.Never/int64(n) {
		return api.Never
	}
	return t * int64(n)
}

// Left is how many ticks at lies behind now.
func Left(at, now int64) int64 {
	at, now = Own(at), Own(now)
	if at == api.Never {
		return api.Never
	}
	return max(at-now, 0)
}

// Due tells whether at has come by now.
func Due(at, now int64) bool {
	at, now = Own(at), Own(now)
	return at != api.Never && now >= at
}

// Least is the least of some ticks, Never of none.
func Least(l ...int64) int64 {
	least := api.Never
	for _, t := range l {
		least = min(least, Own(t))
	}
	return least
}

// Text is a tick's text.
func Text(t int64) string {
	t = Own(t)
	if t == api.Never {
		return never
	}
	return strconv.FormatInt(t, 10)
}

// Parse is the tick of a text.
func Parse(s string) (int64, api.Errno) {
	if s == never {
		return api.Never, api.OK
	}
	if !plain(s) {
		return 0, api.ErrForm
	}
	return count(s)
}

// plain tells whether s is digits without a nought ahead of others.
func plain(s string) bool {
	if s == "" || len(s) > 1 && s[0] == '0' {
		return false
	}
	for i := range len(s) {
		if s[i] < '0' || s[i] > '9' {
			return false
		}
	}
	return true
}

// count is what digits count, as long as that is less than Never.
func count(s string) (int64, api.Errno) {
	var t int64
	for i := range len(s) {
		t = Add(Times(t, 10), int64(s[i]-'0'))
		if t == api.Never {
			return 0, api.ErrRange
		}
	}
	return t, api.OK
}
