package desk_test

import (
	"fmt"
	"math"
	"slices"
	"testing"

	"slotrules/api"
)

// week is rules for the tests: b refers to a and to pause, and neither of them to b.
const week = "rule a = 09:00-17:00; rule b = a - pause; rule pause = 12:00-13:00;"

// shop has two resources, a and b, and a service of one of them, of an hour with ten minutes ahead and five behind.
func shop() []api.Do {
	return dos(rules(week), resource("a"), resource("b"), service(10, 60, 5, pool(0, 1)))
}

// day is a whole day at a desk: all kinds of commands, none of which is refused.
func day() []step {
	return []step{
		fine(rules(week), 0),
		made(resource("a"), 0, 0),
		made(resource("b"), 1, 0),
		made(service(10, 60, 5, pool(0, 1)), 0, 0),
		made(plain(30, pool(0), pool(0, 1)), 1, 0),
		offered(find(0, someDay, 2), 4, someDay, 550, 0),
		made(hold(0, someDay, 550, 0), 0, 4),
		offered(find(0, someDay, 2), 4, someDay, 550, 1),
		fine(confirm(0), 4),
		made(hold(0, someDay, 550, 1), 1, 4),
		offered(find(1, someDay, 1), 4, someDay, 615, 0, 1),
		made(hold(1, someDay+1, 600, 0, 1), 2, 4),
		fine(tick(4), 4),
		fine(move(1, someDay+1, 800, 1), 4),
		fine(cancel(0), 4),
		offered(find(0, someDay, 2), 4, someDay, 550, 0),
		listed(rules("rule a = 10:00-17:00; rule b = a - pause; rule pause = 12:00-14:00;"), 6, 1),
		fine(tick(6), 6),
		made(hold(0, someDay+1, 850, 1), 3, 6),
	}
}

func TestK1ADay(t *testing.T) {
	d := script(t, day()...)
	same(t, "resources", d.Resources, []string{"a", "b"})
	same(t, "services", d.Services, []api.Service{
		{Length: 60, Before: 10, After: 5, Roles: [][]int{{0, 1}}},
		{Length: 30, Roles: [][]int{{0}, {0, 1}}},
	})
	same(t, "appointments", d.Appointments, []api.Appointment{
		{State: api.Gone, From: 540, To: 615, Service: 0, Before: 10, After: 5, Length: 60, Slot: slot(someDay, 550, 0)},
		{State: api.Gone, From: 790, To: 865, Service: 0, Before: 10, After: 5, Length: 60, Slot: slot(someDay+1, 800, 1)},
		{State: api.Gone, From: 600, To: 630, Service: 1, Length: 30, Slot: slot(someDay+1, 600, 0, 1)},
		{State: api.Held, Left: api.HoldTicks, From: 840, To: 915, Service: 0, Before: 10, After: 5, Length: 60, Slot: slot(someDay+1, 850, 1)},
	})
	same(t, "rules", d.Rules, []api.Rule{
		{Name: "a", Expr: api.Expr{Kind: api.ESpan, A: 600, B: 1020}},
		{Name: "b", Expr: api.Expr{Kind: api.EDiff, Kids: []api.Expr{{Kind: api.EName, Name: "a"}, {Kind: api.EName, Name: "pause"}}}},
		{Name: "pause", Expr: api.Expr{Kind: api.ESpan, A: 720, B: 840}},
	})
}

func TestK1NoCommands(t *testing.T) {
	for _, l := range [][]api.Do{nil, {}, make([]api.Do, 0, 9)} {
		same(t, "no commands", play(t, l), outcome{})
	}
}

func TestK1EachPlayBeginsWithNothing(t *testing.T) {
	for range 3 {
		script(t, day()...)
		script(t, no(resource("a"), api.ErrName, 0), no(find(0, someDay, 1), api.ErrNone, 0), no(confirm(0), api.ErrNone, 0))
	}
}

func TestK1AsManyAsMaxDo(t *testing.T) {
	for _, n := range []int{1, 2, api.MaxDo - 1, api.MaxDo} {
		out := play(t, slices.Repeat(dos(tick(0)), n))
		same(t, "ticks", out, outcome{answers: make([]api.Answer, n)})
		l := slices.Concat(shop(), slices.Repeat(dos(find(0, someDay, 1)), api.MaxDo))[:n]
		play(t, l)
	}
	full := slices.Concat(shop(), slices.Repeat(dos(find(0, someDay, 1)), api.MaxDo))[:api.MaxDo]
	last := play(t, full).answers[api.MaxDo-1]
	same(t, "the last one", last, api.Answer{Slot: slot(someDay, 550, 0)})
}

func TestK1MoreThanMaxDo(t *testing.T) {
	for _, n := range []int{api.MaxDo + 1, api.MaxDo + 2, 1000} {
		for _, c := range []api.Do{{}, tick(0), tick(-1), rules(week), {Kind: 99}} {
			out, err := played(t, append(shop(), slices.Repeat(dos(c), n-4)...))
			if err != api.ErrMany {
				t.Errorf("Play of %d commands is error %d", n, err)
			}
			same(t, "too many commands", out, outcome{})
			if len(out.answers) != 0 {
				t.Errorf("there are %d answers", len(out.answers))
			}
		}
	}
}

func TestK1NoSuchKind(t *testing.T) {
	for _, kind := range []int{0, -1, 10, 11, 100, -9, math.MaxInt, math.MinInt} {
		c := api.Do{Kind: kind}
		script(t, no(c, api.ErrKind, 0))
		// Whatever else stands there, and whatever else would be wrong.
		for _, x := range []api.Do{rules(week), resource("a"), resource("zz"), plain(5, pool(0)), plain(0), find(0, someDay, 1), find(9, -1, 99), hold(0, someDay, 600, 0), tick(1), tick(-1), cancel(0)} {
			x.Kind = kind
			l := append(shop(), hold(0, someDay, 550, 0), x)
			out, without := play(t, l), play(t, l[:5])
			same(t, "no such kind", out.answers[5], api.Answer{Err: api.ErrKind})
			same(t, "the desk then", out.desk, without.desk)
			same(t, "runs", out.runs, without.runs)
		}
	}
}

// junk fills all fields that a kind has not.
func junk(c api.Do) api.Do {
	j := api.Do{
		Kind: c.Kind, N: -7, Day: -8, Days: 5000, Text: "oops", Name: "zz",
		Service: api.Service{Length: -1, Before: math.MaxInt, After: math.MinInt, Roles: [][]int{{9, 8}, nil}},
		Slot:    slot(-1, math.MaxInt, 5, -5, 5),
	}
	switch c.Kind {
	case api.DoRules:
		j.Text = c.Text
	case api.DoResource:
		j.Name = c.Name
	case api.DoService:
		j.Service = c.Service
	case api.DoFind:
		j.N, j.Day, j.Days = c.N, c.Day, c.Days
	case api.DoHold, api.DoMove:
		j.N, j.Slot = c.N, c.Slot
	case api.DoConfirm, api.DoCancel:
		j.N = c.N
	case api.DoTick:
		j.Days = c.Days
	}
	return j
}

func TestK1FieldsThatAKindHasNot(t *testing.T) {
	var l []step
	for _, s := range day() {
		s.do = junk(s.do)
		l = append(l, s)
	}
	script(t, l...)
}

// refusals are commands that a shop with two live appointments, of which 1 is gone, refuses, with their errors.
func refusals() []step {
	return []step{
		no(api.Do{}, api.ErrKind, 0),
		no(rules("oops"), api.ErrForm, 0),
		no(rules("rule a = a;"), api.ErrCycle, 0),
		no(rules("rule a = always; rule a = always;"), api.ErrName, 0),
		no(resource("zz"), api.ErrName, 0),
		no(plain(0, pool(0)), api.ErrRange, 0),
		no(plain(5, pool(2)), api.ErrNone, 0),
		no(find(1, someDay, 1), api.ErrNone, 0),
		no(find(0, -1, 1), api.ErrRange, 0),
		no(find(0, someDay, 31), api.ErrRange, 0),
		no(hold(1, someDay, 600, 0), api.ErrNone, 0),
		no(hold(0, someDay, 5, 0), api.ErrRange, 0),
		no(hold(0, someDay, 700), api.ErrMany, 0),
		no(hold(0, someDay, 700, 2), api.ErrNone, 0),
		no(hold(0, someDay, 560, 0), api.ErrBusy, 0),
		no(confirm(1), api.ErrNone, 0),
		no(cancel(1), api.ErrNone, 0),
		no(move(1, someDay, 800, 0), api.ErrNone, 0),
		no(move(0, someDay, 1400, 0), api.ErrRange, 0),
		no(move(0, someDay, 700, 1), api.ErrBusy, 0),
		no(tick(-1), api.ErrRange, 0),
		no(tick(1001), api.ErrRange, 0),
	}
}

func TestK1EachRefusalChangesNothing(t *testing.T) {
	ahead := append(shop(), hold(0, someDay, 550, 0), hold(0, someDay, 550, 1), hold(0, someDay, 800, 0), cancel(1), tick(3))
	behind := dos(find(0, someDay, 1), hold(0, someDay, 550, 1), move(2, someDay, 805, 0), tick(7), find(0, someDay, 1), rules("rule a = 13:00-17:00;"))
	want := play(t, slices.Concat(ahead, behind))
	for _, s := range refusals() {
		out := play(t, slices.Concat(ahead, dos(s.do), behind))
		what := fmt.Sprintf("%+v", s.do)
		same(t, what, out.answers[len(ahead)], s.want)
		same(t, what+" (desk)", out.desk, want.desk)
		same(t, what+" (answers)", slices.Delete(out.answers, len(ahead), len(ahead)+1), want.answers)
		// None of them asks for more than is kept.
		same(t, what+" (runs)", out.runs, want.runs)
	}
}

// What is refused may have asked the machine: that is kept.
func TestK1WhatIsRefusedIsKept(t *testing.T) {
	l := scripted(t, shop()...)
	script(t, append(l,
		no(hold(0, someDay, 540, 0), api.ErrBusy, 1),
		no(hold(0, someDay, 540, 0), api.ErrBusy, 1),
		made(hold(0, someDay, 550, 0), 0, 1),
		no(move(0, someDay, 540, 1), api.ErrBusy, 2),
		fine(move(0, someDay, 550, 1), 2),
		no(find(0, someDay+1, 0), api.ErrRange, 2),
		made(plain(1000, pool(0, 1)), 1, 2),
		no(find(1, someDay, 3), api.ErrSlot, 6),
		offered(find(0, someDay+1, 2), 6, someDay+1, 550, 0),
	)...)
}
