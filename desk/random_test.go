package desk_test

import (
	"fmt"
	"math"
	"math/rand"
	"slices"
	"strings"
	"testing"

	"slotrules/api"
)

func oneOf[T any](r *rand.Rand, l ...T) T { return l[r.Intn(len(l))] }

// randomRules are mostly right, and mostly like others that come of it.
func randomRules(r *rand.Rand) string {
	often := func(usual string, others ...string) string {
		if r.Intn(3) > 0 {
			return usual
		}
		return oneOf(r, others...)
	}
	l := []string{
		"rule a = " + often("08:00-18:00", "10:00-17:00", "09:00-18:00", "weekly mon,wed: 08:00-18:00", "always") + ";",
		"rule b = " + often("a - pause", "a shift 30", "12:00-20:00", "pause shift -60 + a", "(a - pause) & 00:00-16:00") + ";",
		"rule pause = " + often("12:00-13:00", "12:00-12:30", "never", "11:00-12:00") + ";",
		"rule c = " + often("always", "b + 20:00-24:00", "dates 2026-11-16..2026-11-17: always", "never", "00:00-12:00") + ";",
	}
	switch r.Intn(14) {
	case 0, 1:
		i, j := r.Intn(4), r.Intn(4)
		l[i], l[j] = l[j], l[i]
	case 2, 3:
		l = l[:3]
	case 4:
		l = []string{l[0]}
	case 5:
		l = nil
	case 6:
		l = append(l, oneOf(r, "rule a = never;", "rule e = zz;", "rule e = e;", "rule e = f; rule f = e;", "rule", "rule e = 25:00-26:00;", "rule e = always shift 0;"))
	case 7:
		l = append(l, oneOf(r, "rule e = b;", "rule e = always;"))
	}
	return strings.Join(l, oneOf(r, "", "\n"))
}

func randomPools(r *rand.Rand, resources int) [][]int {
	var pools [][]int
	for range oneOf(r, 1, 1, 1, 2, 2, 3) {
		var p []int
		for i := range resources {
			if r.Intn(2) == 0 {
				p = append(p, i)
			}
		}
		if len(p) == 0 {
			p = pool(r.Intn(max(resources, 1)))
		}
		pools = append(pools, p)
	}
	return pools
}

func randomService(r *rand.Rand, resources int) api.Do {
	s := service(oneOf(r, 0, 0, 10, 30), oneOf(r, 5, 30, 60, 120), oneOf(r, 0, 0, 5, 30), randomPools(r, resources)...)
	switch r.Intn(12) {
	case 0:
		s.Service.Length = oneOf(r, 0, -1, api.Minutes+1)
	case 1:
		s.Service.Roles[0] = append(s.Service.Roles[0], oneOf(r, resources, -1, 0))
	case 2:
		s.Service.Roles = nil
	}
	return s
}

// randomSlot is mostly one that a service could have, if all were free.
func randomSlot(r *rand.Rand, d *plainDesk, n int) api.Slot {
	s := slot(someDay+r.Intn(3), 30*r.Intn(48))
	if r.Intn(8) == 0 {
		s.Day = oneOf(r, -1, 0, api.MaxDays-1, api.MaxDays, math.MaxInt, math.MinInt)
	}
	if r.Intn(8) == 0 {
		s.Minute = oneOf(r, -1, 0, 1, 9, 10, 29, 30, 1375, 1380, 1435, 1436, api.Minutes-1, api.Minutes, math.MaxInt, math.MinInt)
	}
	if n >= 0 && n < len(d.Services) {
		for _, p := range d.Services[n].Roles {
			s.Who = append(s.Who, p[r.Intn(len(p))])
		}
	}
	switch r.Intn(16) {
	case 0:
		s.Who = append(s.Who, r.Intn(4))
	case 1:
		s.Who = s.Who[:max(len(s.Who)-1, 0)]
	case 2:
		if len(s.Who) > 0 {
			s.Who[r.Intn(len(s.Who))] = r.Intn(6) - 1
		}
	}
	return s
}

// randomNumber is mostly the number of one of so many.
func randomNumber(r *rand.Rand, many int) int {
	if many == 0 || r.Intn(12) == 0 {
		return oneOf(r, -1, many, math.MaxInt, math.MinInt)
	}
	return r.Intn(many)
}

// randomDo hangs on what the desk has, and on what was told last.
func randomDo(r *rand.Rand, d *plainDesk, last api.Answer) api.Do {
	n, number := randomNumber(r, len(d.Services)), randomNumber(r, len(d.Appointments))
	if len(last.Slot.Who) > 0 && r.Intn(3) > 0 {
		return hold(n, last.Slot.Day, last.Slot.Minute, last.Slot.Who...)
	}
	switch k := r.Intn(100); {
	case k < 30:
		s := randomSlot(r, d, n)
		return hold(n, s.Day, s.Minute, s.Who...)
	case k < 45:
		return find(n, oneOf(r, someDay, someDay, someDay+1, someDay+2, -1, api.MaxDays-1, api.MaxDays), oneOf(r, 1, 1, 2, 3, 3, 12, 30, 0, 31))
	case k < 60:
		of := n
		if number >= 0 && number < len(d.Appointments) {
			of = d.Appointments[number].Service
		}
		s := randomSlot(r, d, of)
		return move(number, s.Day, s.Minute, s.Who...)
	case k < 67:
		return confirm(number)
	case k < 73:
		return cancel(number)
	case k < 79:
		return tick(oneOf(r, 0, 1, 2, 3, 4, 5, 9, 10, 11, 1000, -1, 1001))
	case k < 92:
		return rules(randomRules(r))
	case k < 95:
		return resource(oneOf(r, "a", "b", "c", "pause", "e", "zz", ""))
	case k < 99:
		return randomService(r, len(d.Resources))
	}
	return api.Do{Kind: oneOf(r, 0, 10, -1, math.MaxInt)}
}

// randomScript is a list of commands, by way of a desk that has some things first.
func randomScript(r *rand.Rand) []api.Do {
	var d plainDesk
	var l []api.Do
	var last api.Answer
	more := func(c api.Do) {
		l = append(l, c)
		last = d.do(c)
	}
	more(rules("rule a = 08:00-18:00; rule b = a - pause; rule pause = 12:00-13:00; rule c = always;"))
	for range 1 + r.Intn(4) {
		more(resource(oneOf(r, "a", "b", "b", "c", "c")))
	}
	for range 1 + r.Intn(3) {
		more(randomService(r, len(d.Resources)))
	}
	for n := 20 + r.Intn(30); len(l) < n; {
		more(randomDo(r, &d, last))
	}
	return l
}

// tell tells commands, one on a line.
func tell(l []api.Do) string {
	s := ""
	for i, c := range l {
		s += fmt.Sprintf("%d: %+v\n", i, c)
	}
	return s
}

func TestK1ByTheDocumentsWords(t *testing.T) {
	r := rand.New(rand.NewSource(31))
	seen := map[string]int{}
	for range 400 {
		l := randomScript(r)
		got, want := play(t, l), plainPlay(l)
		same(t, "answers", got.answers, want.answers)
		same(t, "desk", got.desk, want.desk)
		same(t, "runs", got.runs, want.runs)
		if t.Failed() {
			t.Fatal(tell(l))
		}
		for i, a := range got.answers {
			seen[fmt.Sprint(l[i].Kind, a.Err)]++
			if len(a.List) > 0 {
				seen["list"]++
			}
		}
	}
	for _, must := range []string{
		"1 0", "1 2", "1 3", "1 6", "1 7", "1 9", "list",
		"2 0", "2 7", "3 0", "3 2", "3 3", "3 5", "3 6",
		"4 0", "4 3", "4 6", "4 11",
		"5 0", "5 3", "5 5", "5 6", "5 7", "5 10",
		"6 0", "6 6", "7 0", "7 6", "8 0", "8 3", "8 5", "8 6", "8 7", "8 10",
		"9 0", "9 3", "0 1", "10 1",
	} {
		if seen[must] < 5 {
			t.Errorf("%s was seen %d times only: %v", must, seen[must], seen)
		}
	}
}

// How often the machine ran is asked for behind each command, not only in the end.
func TestK1RunsAllAlong(t *testing.T) {
	r := rand.New(rand.NewSource(32))
	for range 60 {
		l := randomScript(r)
		for i := range l {
			got, want := play(t, l[:i]), plainPlay(l[:i])
			same(t, "runs", got.runs, want.runs)
			same(t, "desk", got.desk, want.desk)
			if t.Failed() {
				t.Fatal(tell(l[:i]))
			}
		}
	}
}

func TestK1WhatIsRefusedChangesNothing(t *testing.T) {
	r := rand.New(rand.NewSource(33))
	refused := 0
	for range 200 {
		l := randomScript(r)
		all := play(t, l)
		var left []api.Do
		var answers []api.Answer
		for i, a := range all.answers {
			if a.Err == api.OK {
				left, answers = append(left, l[i]), append(answers, a)
				continue
			}
			refused++
			same(t, "beside an error", a, api.Answer{Err: a.Err})
			// One alone: the desk is the same, and so is all that comes of the others.
			without := play(t, slices.Delete(slices.Clone(l), i, i+1))
			same(t, "desk without one", without.desk, all.desk)
			same(t, "answers without one", without.answers, slices.Delete(slices.Clone(all.answers), i, i+1))
		}
		without := play(t, left)
		same(t, "desk without all", without.desk, all.desk)
		same(t, "answers without all", without.answers, answers)
		if t.Failed() {
			t.Fatal(tell(l))
		}
	}
	if refused < 1000 {
		t.Errorf("only %d were refused", refused)
	}
}

// What is offered can be had; no one is in two places; rules cancel nothing.
func TestK3WhatIsOfferedCanBeHad(t *testing.T) {
	r := rand.New(rand.NewSource(34))
	held := 0
	for range 350 {
		l := randomScript(r)
		all := play(t, l)
		for i, a := range all.answers {
			if len(a.Slot.Who) == 0 || len(play(t, l[:i]).desk.Appointments) == api.MaxAppointments {
				continue
			}
			held++
			at := append(slices.Clone(l[:i]), hold(l[i].N, a.Slot.Day, a.Slot.Minute, a.Slot.Who...))
			got := play(t, at)
			if err := got.answers[i].Err; err != api.OK {
				t.Fatalf("what was offered is refused: %d\n%s", err, tell(at))
			}
		}
		for i, a := range all.desk.Appointments {
			for _, b := range all.desk.Appointments[:i] {
				if a.State != api.Gone && b.State != api.Gone && a.Slot.Day == b.Slot.Day && a.From < b.To && b.From < a.To && slices.ContainsFunc(a.Slot.Who, func(w int) bool { return slices.Contains(b.Slot.Who, w) }) {
					t.Fatalf("someone is in two places: %+v, %+v\n%s", a, b, tell(l))
				}
			}
		}
	}
	if held < 300 {
		t.Errorf("only %d were held", held)
	}
}
