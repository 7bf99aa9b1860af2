package desk

import (
	"slices"

	"slotrules/api"
	"slotrules/cache"
	"slotrules/masks"
	"slotrules/match"
)

// nobody is the number of an appointment that there isn't.
const nobody = -1

// mostTicks is how many ticks there may be at once.
const mostTicks = 1000

// meant is when a resource is free on a day as its rule says, whatever is taken of it.
func (d *desk) meant(resource, day int) api.Mask {
	rule := d.ruleCalled(d.Resources[resource])
	if rule < 0 {
		return api.Mask{}
	}
	// There is no fault: what was compiled can be run, and only days are asked for.
	mask, kept, _ := cache.Get(d.kept, d.codes, d.versions[rule], rule, day)
	d.kept = kept
	return mask
}

// free is when a resource is free on a day, as if one appointment were not there.
func (d *desk) free(resource, day, but int) api.Mask {
	var l []api.Span
	for i, a := range d.Appointments {
		if i != but && a.State != api.Gone && a.Slot.Day == day && slices.Contains(a.Slot.Who, resource) {
			l = append(l, taken(a))
		}
	}
	return masks.Diff(d.meant(resource, day), masks.Of(l))
}

// taken is when an appointment takes its resources.
func taken(a api.Appointment) api.Span { return api.Span{A: a.From, B: a.To} }

func (d *desk) find(service, day, days int) api.Answer {
	if !isNumber(service, len(d.Services)) {
		return refused(api.ErrNone)
	}
	if !isNumber(day, api.MaxDays) || days < 1 || days > api.MaxWindow || day+days > api.MaxDays {
		return refused(api.ErrRange)
	}
	s := d.Services[service]
	var window [][]api.Mask
	for i := range days {
		window = append(window, d.freeFor(s, day+i))
	}
	slot, err := match.Find(s, window)
	if err != api.OK {
		return refused(err)
	}
	slot.Day += day
	return api.Answer{Slot: slot}
}

// freeFor tells when each resource is free on a day; it asks only for those that a service speaks of.
func (d *desk) freeFor(s api.Service, day int) []api.Mask {
	free := make([]api.Mask, len(d.Resources))
	for r := range free {
		if slices.ContainsFunc(s.Roles, func(pool []int) bool { return slices.Contains(pool, r) }) {
			free[r] = d.free(r, day, nobody)
		}
	}
	return free
}

func (d *desk) hold(service int, slot api.Slot) api.Answer {
	if !isNumber(service, len(d.Services)) {
		return refused(api.ErrNone)
	}
	if len(d.Appointments) >= api.MaxAppointments {
		return refused(api.ErrMany)
	}
	s := d.Services[service]
	a := api.Appointment{State: api.Held, Left: api.HoldTicks, Service: service, Before: s.Before, After: s.After, Length: s.Length}
	a, err := d.placed(nobody, a, slot)
	if err != api.OK {
		return refused(err)
	}
	d.Appointments = append(d.Appointments, a)
	return api.Answer{Num: len(d.Appointments) - 1}
}

// placed is an appointment in a slot, if it fits it; what it takes now under its own number does not hinder it.
func (d *desk) placed(number int, a api.Appointment, slot api.Slot) (api.Appointment, api.Errno) {
	if !isNumber(slot.Day, api.MaxDays) || !isNumber(slot.Minute, api.Minutes) {
		return api.Appointment{}, api.ErrRange
	}
	a.From, a.To = slot.Minute-a.Before, slot.Minute+a.Length+a.After
	if a.From < 0 || a.To > api.Minutes {
		return api.Appointment{}, api.ErrRange
	}
	if err := wrongWho(slot.Who, d.Services[a.Service].Roles); err != api.OK {
		return api.Appointment{}, err
	}
	busy := func(resource int) bool { return !masks.Holds(d.free(resource, slot.Day, number), taken(a)) }
	if slices.ContainsFunc(slot.Who, busy) {
		return api.Appointment{}, api.ErrBusy
	}
	a.Slot = api.Slot{Day: slot.Day, Minute: slot.Minute, Who: slices.Clone(slot.Who)}
	return a, api.OK
}

// wrongWho tells what is wrong with those who are to fill roles, whenever that is.
func wrongWho(who []int, roles [][]int) api.Errno {
	if len(who) != len(roles) {
		return api.ErrMany
	}
	for i, resource := range who {
		if !slices.Contains(roles[i], resource) {
			return api.ErrNone
		}
		if slices.Contains(who[:i], resource) {
			return api.ErrName
		}
	}
	return api.OK
}

// change makes of a live appointment what it is to become, if it can.
func (d *desk) change(number int, become func(a api.Appointment) (api.Appointment, api.Errno)) api.Answer {
	if !isNumber(number, len(d.Appointments)) || d.Appointments[number].State == api.Gone {
		return refused(api.ErrNone)
	}
	a, err := become(d.Appointments[number])
	if err != api.OK {
		return refused(err)
	}
	d.Appointments[number] = a
	return api.Answer{}
}

// settled is an appointment for which no tick counts any more.
func settled(a api.Appointment, state int) api.Appointment {
	a.State, a.Left = state, 0
	return a
}

func (d *desk) tick(ticks int) api.Answer {
	if ticks < 0 || ticks > mostTicks {
		return refused(api.ErrRange)
	}
	for i, a := range d.Appointments {
		if a.State != api.Held {
			continue
		}
		a.Left -= ticks
		if a.Left <= 0 {
			a = settled(a, api.Gone)
		}
		d.Appointments[i] = a
	}
	return api.Answer{}
}
