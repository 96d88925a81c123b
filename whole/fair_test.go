package whole

import (
	"slices"
	"testing"

	"repartee/api"
	"repartee/fair"
)

// rowOf is the longest row of rounds in which something is so.
func rowOf(l []bool) int {
	most, n := 0, 0
	for _, so := range l {
		n++
		if !so {
			n = 0
		}
		most = max(most, n)
	}
	return most
}

// dealt is, of each one, in which rounds he might be read or written and was not.
func dealt(t *testing.T, x played) (unread, unwritten map[int][]bool) {
	unread, unwritten = map[int][]bool{}, map[int][]bool{}
	e := made(t, x.setup, x.scripts)
	held, closed := map[int]int{}, map[int]bool{}
	for n, r := range x.rounds {
		room, pending, live, stopped := e.Reads(), e.Writes(), e.Live(), e.Stopped()
		told := e.Round(r)
		done := map[int]map[int]bool{api.EvRead: {}, api.EvEof: {}, api.EvWrite: {}}
		for _, v := range told {
			if v.Kind == api.EvOpen {
				live, room = append(live, v.Id), append(room, v.Id)
			}
			if done[v.Kind] != nil {
				done[v.Kind][v.Id] = true
			}
		}
		for _, o := range r.Offers {
			if slices.Contains(live, o.Id) && !closed[o.Id] {
				held[o.Id] += len(o.Bytes)
				closed[o.Id] = o.Eof
				if o.Eof {
					held[o.Id]++ // The end is read once, as a byte is.
				}
			}
		}
		for _, id := range live {
			for len(unread[id]) <= n {
				unread[id], unwritten[id] = append(unread[id], false), append(unwritten[id], false)
			}
			if r.Abort && !stopped {
				continue
			}
			unread[id][n] = slices.Contains(room, id) && held[id] > 0 && !done[api.EvRead][id] && !done[api.EvEof][id]
			unwritten[id][n] = slices.Contains(pending, id) && !done[api.EvWrite][id]
		}
		for _, v := range told {
			if v.Kind == api.EvRead {
				held[v.Id] -= v.N
			}
			if v.Kind == api.EvEof {
				held[v.Id]--
			}
		}
	}
	return unread, unwritten
}

// P34.4: in any Poll rounds something is read, in any Write of them something is taken; more rounds make no part less.
func TestFairLaws(t *testing.T) {
	for seed := range 600 {
		x := sampled(t, seed)
		f, told, e := fair.Of(x.setup, x.scripts, x.rounds...)
		if e != api.OK || !slices.Equal(told, x.told) || f.Ticks != fair.Ticks(told) {
			t.Fatal(seed, e)
		}
		unread, unwritten := dealt(t, x)
		poll, write := 0, 0
		for id := range unread {
			poll, write = max(poll, rowOf(unread[id])), max(write, rowOf(unwritten[id]))
		}
		if f.Poll != poll+1 || f.Write != write+1 {
			t.Fatal(seed, f, poll, write)
		}
		n := from(seed).Intn(len(x.rounds))
		less, _, _ := fair.Of(x.setup, x.scripts, x.rounds[:n]...)
		if fair.Worse(less, f) != f {
			t.Fatal("less", seed, less, f)
		}
	}
}
