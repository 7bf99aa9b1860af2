package desk_test

import (
	"fmt"
	"slices"

	"slotrules/api"
	"slotrules/check"
	"slotrules/code"
	"slotrules/masks"
	"slotrules/match"
	"slotrules/mean"
	"slotrules/parse"
)

// kept is what a cache keeps, without what the rule meant.
type kept struct{ rule, day, version int }

// plainDesk is the document's words, one by one: it asks what rules mean, not the machine, and counts the machine's runs by itself.
type plainDesk struct {
	api.Desk
	hangsOn  []string // all that each rule's version hangs on
	versions []int
	given    int
	kept     []kept
	runs     int
}

func plainPlay(l []api.Do) outcome {
	var d plainDesk
	var answers []api.Answer
	for _, c := range l {
		answers = append(answers, d.do(c))
	}
	return outcome{d.Desk, answers, d.runs}
}

func (d *plainDesk) do(c api.Do) api.Answer {
	var a api.Answer
	switch c.Kind {
	case api.DoRules:
		a.List, a.Err = d.rules(c.Text)
	case api.DoResource:
		a.Num, a.Err = d.resource(c.Name)
	case api.DoService:
		a.Num, a.Err = d.service(c.Service)
	case api.DoFind:
		a.Slot, a.Err = d.find(c)
	case api.DoHold:
		a.Num, a.Err = d.hold(c)
	case api.DoConfirm, api.DoCancel, api.DoMove:
		a.Err = d.change(c)
	case api.DoTick:
		a.Err = d.tick(c.Days)
	default:
		a.Err = api.ErrKind
	}
	return a
}

func (d *plainDesk) rules(text string) ([]int, api.Errno) {
	l, fault := parse.Parse(text)
	if fault.Err == api.OK {
		fault = check.Wrong(l)
	}
	if fault.Err == api.OK {
		_, fault = code.Compile(l)
	}
	if fault.Err != api.OK {
		return nil, fault.Err
	}
	d.given++
	var hangsOn []string
	var versions []int
	for i := range l {
		all := ""
		for _, u := range append([]int{i}, check.Uses(l, i)...) {
			all += fmt.Sprintf("%d %q;", u, fmt.Sprintf("%+v", l[u]))
		}
		version := d.given
		if i < len(d.hangsOn) && d.hangsOn[i] == all {
			version = d.versions[i]
		}
		hangsOn, versions = append(hangsOn, all), append(versions, version)
	}
	d.Rules, d.hangsOn, d.versions = l, hangsOn, versions
	var list []int
	for i, a := range d.Appointments {
		if a.State != api.Gone && !d.allowed(a) {
			list = append(list, i)
		}
	}
	return list, api.OK
}

// allowed tells whether all resources of an appointment are free as the rules say.
func (d *plainDesk) allowed(a api.Appointment) bool {
	for _, r := range a.Slot.Who {
		m := d.means(r, a.Slot.Day)
		for minute := a.From; minute < a.To; minute++ {
			if !m[minute] {
				return false
			}
		}
	}
	return true
}

func (d *plainDesk) resource(name string) (int, api.Errno) {
	if len(d.Resources) == api.MaxResources {
		return 0, api.ErrMany
	}
	for _, rule := range d.Rules {
		if rule.Name == name {
			d.Resources = append(d.Resources, name)
			return len(d.Resources) - 1, api.OK
		}
	}
	return 0, api.ErrName
}

func (d *plainDesk) service(s api.Service) (int, api.Errno) {
	if len(d.Services) == api.MaxServices {
		return 0, api.ErrMany
	}
	if err := match.Wrong(s, len(d.Resources)); err != api.OK {
		return 0, err
	}
	d.Services = append(d.Services, s)
	return len(d.Services) - 1, api.OK
}

// ask is what is asked of a cache: it counts a run, if that is not kept as of that version.
func (d *plainDesk) ask(k kept) {
	at := slices.IndexFunc(d.kept, func(x kept) bool { return x.rule == k.rule && x.day == k.day })
	if at < 0 || d.kept[at].version != k.version {
		d.runs++
	}
	if at >= 0 {
		d.kept = slices.Delete(d.kept, at, at+1)
	}
	d.kept = append(d.kept, k)
	if len(d.kept) > api.MaxKept {
		d.kept = d.kept[1:]
	}
}

// means tells minute by minute whether a resource's rule means it.
func (d *plainDesk) means(resource, day int) [api.Minutes]bool {
	var m [api.Minutes]bool
	for i, rule := range d.Rules {
		if rule.Name != d.Resources[resource] {
			continue
		}
		d.ask(kept{i, day, d.versions[i]})
		all, _ := mean.All(d.Rules, day)
		for _, s := range masks.Spans(all[i]) {
			for minute := s.A; minute < s.B; minute++ {
				m[minute] = true
			}
		}
	}
	return m
}

// free leaves out what live appointments take, but for one.
func (d *plainDesk) free(resource, day, but int) [api.Minutes]bool {
	m := d.means(resource, day)
	for i, a := range d.Appointments {
		if i == but || a.State == api.Gone || a.Slot.Day != day {
			continue
		}
		for _, r := range a.Slot.Who {
			for minute := a.From; r == resource && minute < a.To; minute++ {
				m[minute] = false
			}
		}
	}
	return m
}

func (d *plainDesk) find(c api.Do) (api.Slot, api.Errno) {
	if c.N < 0 || c.N >= len(d.Services) {
		return api.Slot{}, api.ErrNone
	}
	if c.Day < 0 || c.Day >= api.MaxDays || c.Days < 1 || c.Days > api.MaxWindow || c.Day+c.Days > api.MaxDays {
		return api.Slot{}, api.ErrRange
	}
	s := d.Services[c.N]
	asked := slices.Concat(s.Roles...)
	var days [][]api.Mask
	for day := c.Day; day < c.Day+c.Days; day++ {
		l := make([]api.Mask, len(d.Resources))
		for r := range d.Resources {
			if !slices.Contains(asked, r) {
				continue
			}
			for minute, ok := range d.free(r, day, -1) {
				if ok {
					l[r][minute/64] |= 1 << (minute % 64)
				}
			}
		}
		days = append(days, l)
	}
	found, err := match.Find(s, days)
	if err == api.OK {
		found.Day += c.Day
	}
	return found, err
}

// fits tells whether an appointment fits a slot, but for what one takes.
func (d *plainDesk) fits(a api.Appointment, s api.Slot, but int) api.Errno {
	if s.Day < 0 || s.Day >= api.MaxDays || s.Minute < 0 || s.Minute >= api.Minutes {
		return api.ErrRange
	}
	from, to := s.Minute-a.Before, s.Minute+a.Length+a.After
	if from < 0 || to > api.Minutes {
		return api.ErrRange
	}
	roles := d.Services[a.Service].Roles
	if len(s.Who) != len(roles) {
		return api.ErrMany
	}
	ahead := map[int]int{}
	for i, r := range s.Who {
		if !slices.Contains(roles[i], r) {
			return api.ErrNone
		}
		if ahead[r]++; ahead[r] > 1 {
			return api.ErrName
		}
	}
	for _, r := range s.Who {
		m := d.free(r, s.Day, but)
		for minute := from; minute < to; minute++ {
			if !m[minute] {
				return api.ErrBusy
			}
		}
	}
	return api.OK
}

func (d *plainDesk) hold(c api.Do) (int, api.Errno) {
	if c.N < 0 || c.N >= len(d.Services) {
		return 0, api.ErrNone
	}
	if len(d.Appointments) == api.MaxAppointments {
		return 0, api.ErrMany
	}
	s := d.Services[c.N]
	a := api.Appointment{State: api.Held, Left: api.HoldTicks, Service: c.N, Before: s.Before, After: s.After, Length: s.Length}
	if err := d.fits(a, c.Slot, -1); err != api.OK {
		return 0, err
	}
	a.Slot, a.From, a.To = c.Slot, c.Slot.Minute-s.Before, c.Slot.Minute+s.Length+s.After
	d.Appointments = append(d.Appointments, a)
	return len(d.Appointments) - 1, api.OK
}

func (d *plainDesk) change(c api.Do) api.Errno {
	if c.N < 0 || c.N >= len(d.Appointments) || d.Appointments[c.N].State == api.Gone {
		return api.ErrNone
	}
	a := &d.Appointments[c.N]
	switch c.Kind {
	case api.DoConfirm:
		a.State, a.Left = api.Confirmed, 0
	case api.DoCancel:
		a.State, a.Left = api.Gone, 0
	case api.DoMove:
		if err := d.fits(*a, c.Slot, c.N); err != api.OK {
			return err
		}
		a.Slot, a.From, a.To = c.Slot, c.Slot.Minute-a.Before, c.Slot.Minute+a.Length+a.After
	}
	return api.OK
}

func (d *plainDesk) tick(ticks int) api.Errno {
	if ticks < 0 || ticks > 1000 {
		return api.ErrRange
	}
	for i := range d.Appointments {
		a := &d.Appointments[i]
		if a.State != api.Held {
			continue
		}
		if a.Left -= ticks; a.Left <= 0 {
			a.State, a.Left = api.Gone, 0
		}
	}
	return api.OK
}
