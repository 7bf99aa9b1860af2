package match_test

import (
	"reflect"
	"slices"
	"testing"

	"slotrules/api"
	"slotrules/masks"
	"slotrules/match"
)

// of is a mask: from, to, from, to ..
func of(l ...int) api.Mask {
	var spans []api.Span
	for i := 0; i+1 < len(l); i += 2 {
		spans = append(spans, api.Span{A: l[i], B: l[i+1]})
	}
	return masks.Of(spans)
}

// dirty has all bits behind the last minute set, which mean nothing.
func dirty(m api.Mask) api.Mask {
	m[api.Words-1] |= ^uint64(1<<(api.Minutes%64) - 1)
	return m
}

func always() api.Mask { return of(0, api.Minutes) }

// day is when each resource is free.
func day(l ...api.Mask) []api.Mask { return l }

// open is a day on which so many resources are free all the time.
func open(resources int) []api.Mask { return slices.Repeat(day(always()), resources) }

// shut is a day on which none of so many resources is ever free.
func shut(resources int) []api.Mask { return make([]api.Mask, resources) }

// roles are pools.
func roles(l ...[]int) [][]int { return l }

func pool(l ...int) []int { return l }

// upTo is the pool of so many resources, from 0 on.
func upTo(n int) []int {
	var l []int
	for i := range n {
		l = append(l, i)
	}
	return l
}

// plain is a service with nothing ahead or behind.
func plain(length int, pools ...[]int) api.Service {
	return api.Service{Length: length, Roles: pools}
}

func service(before, length, after int, pools ...[]int) api.Service {
	return api.Service{Length: length, Before: before, After: after, Roles: pools}
}

func slot(day, minute int, who ...int) api.Slot {
	return api.Slot{Day: day, Minute: minute, Who: who}
}

// roomyService copies a service, with a pool, and in each pool a resource, in the spare room.
func roomyService(s api.Service) api.Service {
	out := s
	out.Roles = append(slices.Clone(s.Roles), pool(0))
	for i, p := range out.Roles {
		out.Roles[i] = append(slices.Clone(p), 99)[:len(p)]
	}
	out.Roles = out.Roles[:len(s.Roles)]
	return out
}

// roomyDays copies days, with an open day, and on each day a resource that is always free, in the spare room.
func roomyDays(l [][]api.Mask) [][]api.Mask {
	out := append(slices.Clone(l), open(20))
	for i, d := range out {
		out[i] = append(slices.Clone(d), always())[:len(d)]
	}
	return out[:len(l)]
}

// spread is a copy of all of the memory of a list of lists.
func spread[T any](l [][]T) [][]T {
	out := slices.Clone(l[:cap(l)])
	for i, x := range out {
		out[i] = slices.Clone(x[:cap(x)])
	}
	return out
}

// scribble writes on all of the memory of a list of lists.
func scribble[T any](l [][]T, x T) {
	for _, p := range l[:cap(l)] {
		p = p[:cap(p)]
		for i := range p {
			p[i] = x
		}
	}
}

// wrongOf asks Wrong, and sees that the service is as it was, its spare room too.
func wrongOf(t *testing.T, s api.Service, resources int) api.Errno {
	t.Helper()
	handed := roomyService(s)
	pools := spread(handed.Roles)
	err := match.Wrong(handed, resources)
	if !reflect.DeepEqual(pools, spread(handed.Roles)) {
		t.Errorf("the service that was handed in has changed: %v", handed)
	}
	return err
}

// find asks Find, and sees that what was handed in is as it was, its spare room too, and shares no memory with what is answered.
func find(t *testing.T, s api.Service, days [][]api.Mask) (api.Slot, api.Errno) {
	t.Helper()
	handed, window := roomyService(s), roomyDays(days)
	pools, free := spread(handed.Roles), spread(window)
	got, err := match.Find(handed, window)
	if !reflect.DeepEqual(pools, spread(handed.Roles)) {
		t.Errorf("the service that was handed in has changed: %v", handed)
	}
	if !reflect.DeepEqual(free, spread(window)) {
		t.Errorf("the days that were handed in have changed")
	}
	answer := slices.Clone(got.Who)
	scribble(handed.Roles, -5)
	scribble(window, api.Mask{})
	if !slices.Equal(answer, got.Who) {
		t.Errorf("what is answered shares memory with what was handed in")
	}
	scribble([][]int{got.Who}, -6)
	for _, p := range spread(handed.Roles) {
		if slices.Contains(p, -6) {
			t.Errorf("what was handed in shares memory with what is answered")
		}
	}
	return api.Slot{Day: got.Day, Minute: got.Minute, Who: answer}, err
}

// plainWrong is the document's words, one by one.
func plainWrong(s api.Service, resources int) api.Errno {
	in := func(n, from, to int) bool { return from <= n && n <= to }
	if !in(s.Length, 1, api.Minutes) || !in(s.Before, 0, api.Minutes) || !in(s.After, 0, api.Minutes) || s.Length+s.Before+s.After > api.Minutes {
		return api.ErrRange
	}
	if !in(len(s.Roles), 1, api.MaxRoles) {
		return api.ErrMany
	}
	for _, p := range s.Roles {
		if !in(len(p), 1, api.MaxPool) {
			return api.ErrMany
		}
		for i := range p {
			if !in(p[i], 0, resources-1) {
				return api.ErrNone
			}
			if i > 0 && !(p[i-1] < p[i]) {
				return api.ErrForm
			}
		}
	}
	return api.OK
}

// plainFind is the document's words: every minute of every day, and every choice of one of each pool.
func plainFind(s api.Service, days [][]api.Mask) (api.Slot, api.Errno) {
	if len(days) > api.MaxWindow {
		return api.Slot{}, api.ErrMany
	}
	for _, d := range days {
		if err := plainWrong(s, len(d)); err != api.OK {
			return api.Slot{}, err
		}
	}
	all := slices.DeleteFunc(choices(s.Roles), func(who []int) bool { return !apart(who) })
	for at, d := range days {
		for minute := range api.Minutes {
			span := api.Span{A: minute - s.Before, B: minute + s.Length + s.After}
			var least []int
			for _, who := range all {
				if allHold(d, who, span) && (least == nil || slices.Compare(who, least) < 0) {
					least = who
				}
			}
			if least != nil {
				return slot(at, minute, least...), api.OK
			}
		}
	}
	return api.Slot{}, api.ErrSlot
}

// choices are all lists of one of each pool.
func choices(pools [][]int) [][]int {
	all := [][]int{nil}
	for _, p := range pools {
		var next [][]int
		for _, who := range all {
			for _, r := range p {
				next = append(next, append(slices.Clone(who), r))
			}
		}
		all = next
	}
	return all
}

// apart tells whether no one is there twice.
func apart(who []int) bool {
	sorted := slices.Clone(who)
	slices.Sort(sorted)
	return len(slices.Compact(sorted)) == len(who)
}

func allHold(d []api.Mask, who []int, span api.Span) bool {
	for _, r := range who {
		if !masks.Holds(d[r], span) {
			return false
		}
	}
	return true
}
