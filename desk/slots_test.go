package desk_test

import (
	"fmt"
	"math"
	"testing"

	"slotrules/api"
)

// studio has a and c that are always free, b that is free from 9 to 17, and n that never is.
// Its service 0 needs one of a, b and n, and one of a and c; it takes 75 minutes, from 10 ahead on. Appointment 0 takes a and c of someDay from 590 on, below 665.
func studio() []api.Do {
	return dos(
		rules("rule a = always; rule b = 09:00-17:00; rule c = always; rule n = never;"),
		resource("a"), resource("b"), resource("c"), resource("n"),
		service(10, 60, 5, pool(0, 1, 3), pool(0, 2)),
		plain(1, pool(0)),
		service(0, 5, 0, pool(0), pool(0, 1), pool(1, 2)),
		plain(5, pool(0), pool(1)),
		hold(0, someDay, 600, 0, 2),
	)
}

// asked is a slot that is asked of a service, and what comes of it.
type asked struct {
	n    int
	slot api.Slot
	err  api.Errno
}

// slotsAsked are the edges, and what is wrong, in the order of the document; of two at once, the one that comes first.
func slotsAsked() []asked {
	const free, busy = someDay + 3, someDay
	return []asked{
		// No day, no minute.
		{0, slot(0, 600, 0, 2), api.OK}, {0, slot(-1, 600, 0, 2), api.ErrRange}, {0, slot(math.MinInt, 600, 0, 2), api.ErrRange},
		{0, slot(api.MaxDays-1, 600, 0, 2), api.OK}, {0, slot(api.MaxDays, 600, 0, 2), api.ErrRange}, {0, slot(math.MaxInt, 600, 0, 2), api.ErrRange},
		{1, slot(free, 0, 0), api.OK}, {1, slot(free, -1, 0), api.ErrRange}, {1, slot(free, math.MinInt, 0), api.ErrRange},
		{1, slot(free, 1439, 0), api.OK}, {1, slot(free, 1440, 0), api.ErrRange}, {1, slot(free, math.MaxInt, 0), api.ErrRange},
		// From at 0 and one below, To at Minutes and one above.
		{0, slot(free, 10, 0, 2), api.OK}, {0, slot(free, 9, 0, 2), api.ErrRange}, {0, slot(free, 0, 0, 2), api.ErrRange},
		{0, slot(free, 1375, 0, 2), api.OK}, {0, slot(free, 1376, 0, 2), api.ErrRange}, {0, slot(free, 1439, 0, 2), api.ErrRange},
		{2, slot(free, 1435, 0, 1, 2), api.ErrBusy}, {2, slot(free, 1436, 0, 1, 2), api.ErrRange},
		// As many as there are roles, one less and one more.
		{0, slot(free, 600), api.ErrMany}, {0, slot(free, 600, 0), api.ErrMany}, {0, slot(free, 600, 0, 2), api.OK}, {0, slot(free, 600, 0, 2, 1), api.ErrMany}, {0, slot(free, 600, 0, 2, 0, 2), api.ErrMany},
		{1, slot(free, 600), api.ErrMany}, {1, slot(free, 600, 0, 0), api.ErrMany}, {2, slot(free, 600, 0, 1), api.ErrMany},
		// Not in that role's pool, and there ahead.
		{0, slot(free, 600, 1, 2), api.OK}, {0, slot(free, 600, 1, 0), api.OK},
		{0, slot(free, 600, 2, 0), api.ErrNone}, {0, slot(free, 600, 0, 1), api.ErrNone}, {0, slot(free, 600, 4, 2), api.ErrNone}, {0, slot(free, 600, 0, -1), api.ErrNone},
		{0, slot(free, 600, math.MaxInt, 2), api.ErrNone}, {0, slot(free, 600, 0, math.MinInt), api.ErrNone}, {0, slot(free, 600, 4, 4), api.ErrNone},
		{0, slot(free, 600, 0, 0), api.ErrName}, {3, slot(free, 600, 0, 0), api.ErrNone}, {3, slot(free, 600, 0, 1), api.OK},
		{2, slot(free, 600, 0, 1, 2), api.OK}, {2, slot(free, 600, 0, 1, 1), api.ErrName}, {2, slot(free, 600, 0, 0, 9), api.ErrName}, {2, slot(free, 600, 0, 9, 9), api.ErrNone}, {2, slot(free, 600, 0, 2, 1), api.ErrNone}, {2, slot(free, 600, 0, 0, 2), api.ErrName},
		// Not free, as the rule says.
		{0, slot(free, 550, 1, 2), api.OK}, {0, slot(free, 549, 1, 2), api.ErrBusy}, {0, slot(free, 955, 1, 2), api.OK}, {0, slot(free, 956, 1, 2), api.ErrBusy},
		{0, slot(free, 600, 3, 2), api.ErrBusy}, {0, slot(free, 600, 3, 0), api.ErrBusy},
		// Not free, as another appointment takes it.
		{0, slot(busy, 600, 0, 2), api.ErrBusy}, {0, slot(busy, 600, 1, 2), api.ErrBusy}, {0, slot(busy, 600, 1, 0), api.ErrBusy}, {3, slot(busy, 600, 0, 1), api.ErrBusy},
		{0, slot(busy, 525, 0, 2), api.OK}, {0, slot(busy, 526, 0, 2), api.ErrBusy}, {0, slot(busy, 675, 0, 2), api.OK}, {0, slot(busy, 674, 0, 2), api.ErrBusy},
		{1, slot(busy, 589, 0), api.OK}, {1, slot(busy, 590, 0), api.ErrBusy}, {1, slot(busy, 664, 0), api.ErrBusy}, {1, slot(busy, 665, 0), api.OK},
		// Two at once.
		{0, slot(-1, 600, 9), api.ErrRange}, {0, slot(free, 1440, 0, 0), api.ErrRange}, {0, slot(free, 9, 9), api.ErrRange}, {0, slot(free, 1376, 0, 0), api.ErrRange}, {0, slot(free, 0, 3, 2), api.ErrRange}, {0, slot(busy, 5, 0, 2), api.ErrRange},
		{0, slot(free, 600, 9), api.ErrMany}, {0, slot(busy, 600, 0), api.ErrMany}, {0, slot(free, 600, 0, 0, 0), api.ErrMany},
		{0, slot(busy, 600, 0, 9), api.ErrNone}, {0, slot(free, 600, 3, 1), api.ErrNone}, {0, slot(busy, 600, 0, 0), api.ErrName},
	}
}

func TestK4HoldFits(t *testing.T) {
	l := studio()
	ahead := play(t, l)
	for _, x := range slotsAsked() {
		what := fmt.Sprintf("service %d in %v", x.n, x.slot)
		out := play(t, append(l, hold(x.n, x.slot.Day, x.slot.Minute, x.slot.Who...)))
		if x.err != api.OK {
			same(t, what, out.answers[len(l)], api.Answer{Err: x.err})
			same(t, what, out.desk, ahead.desk)
			continue
		}
		same(t, what, out.answers[len(l)], api.Answer{Num: 1})
		s := out.desk.Services[x.n]
		same(t, what, out.desk.Appointments, append(ahead.desk.Appointments, api.Appointment{
			State: api.Held, Left: 10, From: x.slot.Minute - s.Before, To: x.slot.Minute + s.Length + s.After,
			Service: x.n, Before: s.Before, After: s.After, Length: s.Length, Slot: x.slot,
		}))
	}
}

func TestK4MoveFits(t *testing.T) {
	where := []api.Slot{slot(someDay+9, 600, 0, 2), slot(someDay+9, 600, 0), slot(someDay+9, 600, 0, 1, 2), slot(someDay+9, 600, 0, 1)}
	for _, x := range slotsAsked() {
		was := where[x.n]
		for _, state := range []api.Do{confirm(1), tick(0), tick(4)} {
			l := append(studio(), hold(x.n, was.Day, was.Minute, was.Who...), state)
			ahead := play(t, l)
			what := fmt.Sprintf("one of service %d to %v", x.n, x.slot)
			out := play(t, append(l, move(1, x.slot.Day, x.slot.Minute, x.slot.Who...)))
			same(t, what, out.answers[len(l)], api.Answer{Err: x.err})
			if x.err == api.OK {
				a, s := &ahead.desk.Appointments[1], out.desk.Services[x.n]
				a.From, a.To, a.Slot = x.slot.Minute-s.Before, x.slot.Minute+s.Length+s.After, x.slot
			}
			// Nothing else has changed: neither its state nor how long it is left, nor its measures.
			same(t, what, out.desk, ahead.desk)
		}
	}
}

// One by one, in turn, up to the first one that is not free.
func TestK4WhatIsAsked(t *testing.T) {
	const three = "rule a = 09:00-10:00; rule b = 09:00-11:00; rule c = 09:00-12:00;"
	l := scripted(t, rules(three), resource("a"), resource("b"), resource("c"), plain(30, upTo(3), upTo(3), upTo(3)))
	for _, x := range []struct {
		do   api.Do
		err  api.Errno
		runs int
	}{
		{hold(0, someDay, 540, 0, 1, 2), api.OK, 3},
		{hold(0, someDay, 600, 0, 1, 2), api.ErrBusy, 1},
		{hold(0, someDay, 600, 1, 0, 2), api.ErrBusy, 2},
		{hold(0, someDay, 600, 2, 1, 0), api.ErrBusy, 3},
		{hold(0, someDay, 660, 2, 1, 0), api.ErrBusy, 2},
		{hold(0, someDay, 720, 2, 1, 0), api.ErrBusy, 1},
		// What is wrong, whenever it is, is told without asking.
		{hold(0, someDay, 540, 0, 1, 1), api.ErrName, 0},
		{hold(0, someDay, 540, 0, 1, 3), api.ErrNone, 0},
		{hold(0, someDay, 540, 0, 1), api.ErrMany, 0},
		{hold(0, someDay, 1411, 0, 1, 2), api.ErrRange, 0},
		{hold(1, someDay, 540, 0, 1, 2), api.ErrNone, 0},
		{move(0, someDay, 540, 0, 1, 2), api.ErrNone, 0},
		{confirm(0), api.ErrNone, 0},
		{tick(5), api.OK, 0},
	} {
		script(t, append(l, step{x.do, api.Answer{Err: x.err}, x.runs})...)
	}
	// A move asks likewise, of its own rules too: what it takes is only left in.
	l = append(l, fine(hold(0, someDay, 540, 0, 1, 2), 3))
	script(t, append(l, fine(move(0, someDay, 540, 2, 1, 0), 3), fine(move(0, someDay+1, 540, 0, 1, 2), 6), no(move(0, someDay+2, 600, 1, 0, 2), api.ErrBusy, 8))...)
	script(t, append(l, listed(rules("rule a = 09:00-10:30; rule b = 09:00-11:30; rule c = 09:00-12:30;"), 6), fine(move(0, someDay, 600, 0, 1, 2), 6))...)
}

func TestK4MoveOntoItself(t *testing.T) {
	begin := append(scripted(t, shop()...), made(hold(0, someDay, 610, 0), 0, 1))
	for _, state := range []step{fine(tick(0), 1), fine(tick(3), 1), fine(confirm(0), 1)} {
		l := append(begin, state)
		was := script(t, l...).Appointments
		same(t, "where it is", script(t, append(l, fine(move(0, someDay, 610, 0), 1))...).Appointments, was)
		// In part onto what it takes: 600 to 675.
		for _, minute := range []int{611, 609, 684, 685, 686, 550, 575, 650} {
			was[0].From, was[0].To, was[0].Slot = minute-10, minute+65, slot(someDay, minute, 0)
			same(t, "moved", script(t, append(l, fine(move(0, someDay, minute, 0), 1))...).Appointments, was)
		}
		// It no longer takes where it was.
		script(t, append(l, fine(move(0, someDay, 620, 0), 1), no(hold(0, someDay, 550, 0), api.ErrBusy, 1), no(hold(0, someDay, 545, 0), api.ErrBusy, 1))...)
		script(t, append(l, fine(move(0, someDay, 625, 0), 1), made(hold(0, someDay, 550, 0), 1, 1))...)
		// Where a rule no longer means it, it is not free for itself either.
		script(t, append(l, listed(rules("rule a = 11:00-17:00;"), 2, 0), no(move(0, someDay, 610, 0), api.ErrBusy, 2), fine(move(0, someDay, 670, 0), 2))...)
	}
	// Another one's minutes are not its own.
	l := append(begin, made(hold(0, someDay, 700, 0), 1, 1))
	script(t, append(l, no(move(0, someDay, 700, 0), api.ErrBusy, 1), no(move(0, someDay, 626, 0), api.ErrBusy, 1), fine(move(0, someDay, 625, 0), 1), no(move(1, someDay, 699, 0), api.ErrBusy, 1), fine(move(1, someDay, 701, 0), 1))...)
	// But what is gone takes nothing.
	script(t, append(l, fine(cancel(1), 1), fine(move(0, someDay, 700, 0), 1), no(move(1, someDay, 610, 0), api.ErrNone, 1))...)
}

// Each has the measures of its own service, wherever it is moved.
func TestK4Measures(t *testing.T) {
	d := script(t, append(scripted(t, shop()...),
		made(service(20, 30, 40, pool(0, 1)), 1, 0),
		made(plain(7, pool(0, 1)), 2, 0),
		made(hold(1, someDay, 600, 0), 0, 1),
		made(hold(2, someDay, 600, 1), 1, 2),
		made(hold(0, someDay, 640, 1), 2, 2),
		no(move(0, someDay, 559, 0), api.ErrBusy, 2),
		fine(move(0, someDay, 560, 0), 2),
		fine(move(1, someDay, 633, 0), 2),
		fine(move(2, someDay, 850, 0), 2),
		fine(move(0, someDay, 950, 0), 2),
	)...)
	same(t, "appointments", d.Appointments, []api.Appointment{
		{State: api.Held, Left: 10, From: 930, To: 1020, Service: 1, Before: 20, After: 40, Length: 30, Slot: slot(someDay, 950, 0)},
		{State: api.Held, Left: 10, From: 633, To: 640, Service: 2, Length: 7, Slot: slot(someDay, 633, 0)},
		{State: api.Held, Left: 10, From: 840, To: 915, Service: 0, Before: 10, After: 5, Length: 60, Slot: slot(someDay, 850, 0)},
	})
}

func TestK4NoSuchService(t *testing.T) {
	for _, n := range []int{-1, 1, 2, api.MaxServices, math.MaxInt, math.MinInt} {
		script(t, append(scripted(t, shop()...), no(hold(n, someDay, 600, 0), api.ErrNone, 0), no(hold(n, -1, 5), api.ErrNone, 0), made(hold(0, someDay, 600, 0), 0, 1))...)
	}
	script(t, no(hold(0, someDay, 600, 0), api.ErrNone, 0))
}

func TestK4AsManyAsMaxAppointments(t *testing.T) {
	l := scripted(t, rules("rule a = always;"), resource("a"), plain(10, pool(0)))
	for i := range api.MaxAppointments {
		l = append(l, made(hold(0, someDay, 10*i, 0), i, 1))
	}
	script(t, append(l,
		no(hold(0, someDay, 1000, 0), api.ErrMany, 1),
		// Ahead of what else is wrong with it, but behind there being no such service.
		no(hold(0, -1, 1000, 0), api.ErrMany, 1),
		no(hold(0, someDay, 0, 0), api.ErrMany, 1),
		no(hold(0, someDay, 1000), api.ErrMany, 1),
		no(hold(0, someDay, 1000, 9), api.ErrMany, 1),
		no(hold(1, someDay, 1000, 0), api.ErrNone, 1),
		no(hold(-1, someDay, 1000, 0), api.ErrNone, 1),
		// Those that are there can be moved, and those that are gone are still there.
		fine(move(29, someDay, 1000, 0), 1),
		fine(confirm(28), 1),
		fine(cancel(3), 1),
		no(hold(0, someDay, 30, 0), api.ErrMany, 1),
		fine(tick(10), 1),
		no(hold(0, someDay, 30, 0), api.ErrMany, 1),
		offered(find(0, someDay, 1), 1, someDay, 0, 0),
	)...)
}

func TestK4NoSuchAppointment(t *testing.T) {
	begin := append(scripted(t, shop()...), made(hold(0, someDay, 550, 0), 0, 1), made(hold(0, someDay, 700, 0), 1, 1))
	for _, n := range []int{-1, 2, 3, api.MaxAppointments, math.MaxInt, math.MinInt} {
		script(t, no(confirm(n), api.ErrNone, 0), no(cancel(n), api.ErrNone, 0), no(move(n, someDay, 600, 0), api.ErrNone, 0))
		script(t, append(begin,
			no(confirm(n), api.ErrNone, 1), no(cancel(n), api.ErrNone, 1), no(move(n, someDay, 800, 0), api.ErrNone, 1),
			// Ahead of what is wrong with the slot.
			no(move(n, -1, 5), api.ErrNone, 1), no(move(n, someDay, 550, 0), api.ErrNone, 1),
		)...)
	}
	// Those that are gone, whichever way they went.
	for _, end := range []step{fine(cancel(0), 1), fine(tick(10), 1), fine(tick(1000), 1)} {
		script(t, append(begin, fine(confirm(1), 1), end,
			no(confirm(0), api.ErrNone, 1), no(cancel(0), api.ErrNone, 1), no(move(0, someDay, 550, 0), api.ErrNone, 1), no(move(0, -1, 0), api.ErrNone, 1), fine(cancel(1), 1), no(cancel(1), api.ErrNone, 1),
		)...)
	}
}

// states tells the states of all appointments, and how long each is left.
func states(d api.Desk) string {
	s := ""
	for _, a := range d.Appointments {
		s += fmt.Sprintf("%d:%d ", a.State, a.Left)
	}
	return s
}

func TestK4States(t *testing.T) {
	begin := append(scripted(t, shop()...), made(hold(0, someDay, 550, 0), 0, 1), made(hold(0, someDay, 550, 1), 1, 2))
	for _, x := range []struct {
		want string
		l    []api.Do
	}{
		{"1:10 1:10 ", nil},
		{"2:0 1:10 ", dos(confirm(0))},
		{"2:0 1:10 ", dos(confirm(0), confirm(0))},
		{"1:10 2:0 ", dos(confirm(1))},
		{"3:0 1:10 ", dos(cancel(0))},
		{"1:10 3:0 ", dos(cancel(1))},
		{"3:0 1:10 ", dos(confirm(0), cancel(0))},
		{"2:0 1:7 ", dos(tick(3), confirm(0))},
		{"2:0 1:7 ", dos(confirm(0), tick(3))},
		{"3:0 1:7 ", dos(cancel(0), tick(3))},
		{"3:0 1:7 ", dos(tick(3), cancel(0))},
		{"1:10 1:10 ", dos(tick(0))},
		{"1:9 1:9 ", dos(tick(1))},
		{"1:1 1:1 ", dos(tick(9))},
		{"3:0 3:0 ", dos(tick(10))},
		{"3:0 3:0 ", dos(tick(11))},
		{"3:0 3:0 ", dos(tick(1000))},
		{"1:1 1:1 ", dos(tick(4), tick(5), tick(0))},
		{"3:0 3:0 ", dos(tick(4), tick(5), tick(1))},
		{"3:0 3:0 ", dos(tick(4), tick(7))},
		{"2:0 3:0 ", dos(confirm(0), tick(10))},
		{"2:0 3:0 ", dos(tick(9), confirm(0), tick(1000), tick(1000))},
		{"3:0 2:0 ", dos(tick(9), confirm(1), tick(1), tick(5))},
		{"1:6 1:6 ", dos(tick(4), move(0, someDay, 560, 0))},
		{"2:0 1:6 ", dos(tick(4), confirm(0), move(0, someDay, 560, 0))},
		{"1:4 1:4 1:8 ", dos(tick(4), hold(0, someDay, 800, 0), tick(2))},
		{"3:0 3:0 1:4 ", dos(tick(4), hold(0, someDay, 800, 0), tick(6))},
	} {
		d := script(t, append(begin, scripted(t, append(commands(begin), x.l...)...)[len(begin):]...)...)
		same(t, tell(x.l), states(d), x.want)
	}
}

func TestK4NotSoManyTicks(t *testing.T) {
	for _, n := range []int{-1, -10, 1001, 1010, math.MaxInt, math.MinInt} {
		script(t, no(tick(n), api.ErrRange, 0))
		d := script(t, append(scripted(t, shop()...), made(hold(0, someDay, 550, 0), 0, 1), fine(tick(2), 1), no(tick(n), api.ErrRange, 1))...)
		same(t, fmt.Sprint(n), states(d), "1:8 ")
	}
	script(t, fine(tick(0), 0), fine(tick(1000), 0))
}

// A hold goes behind HoldTicks ticks, and its slot is held again.
func TestK4HeldAgain(t *testing.T) {
	d := script(t, append(scripted(t, shop()...),
		made(hold(0, someDay, 550, 0), 0, 1),
		fine(tick(api.HoldTicks-1), 1),
		no(hold(0, someDay, 550, 0), api.ErrBusy, 1),
		fine(tick(1), 1),
		made(hold(0, someDay, 550, 0), 1, 1),
		no(confirm(0), api.ErrNone, 1),
		fine(confirm(1), 1),
		fine(tick(1000), 1),
		no(hold(0, someDay, 550, 0), api.ErrBusy, 1),
		fine(cancel(1), 1),
		made(hold(0, someDay, 550, 0), 2, 1),
	)...)
	same(t, "states", states(d), "3:0 3:0 1:10 ")
}
