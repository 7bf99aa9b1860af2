package desk_test

import (
	"fmt"
	"reflect"
	"slices"
	"strings"
	"testing"

	"slotrules/api"
	"slotrules/desk"
)

// someDay is November 16, 2026, a Monday.
const someDay = 9816

func rules(text string) api.Do { return api.Do{Kind: api.DoRules, Text: text} }

func resource(name string) api.Do { return api.Do{Kind: api.DoResource, Name: name} }

func service(before, length, after int, pools ...[]int) api.Do {
	return api.Do{Kind: api.DoService, Service: api.Service{Length: length, Before: before, After: after, Roles: pools}}
}

// plain is a service with nothing ahead or behind.
func plain(length int, pools ...[]int) api.Do { return service(0, length, 0, pools...) }

func find(n, day, days int) api.Do { return api.Do{Kind: api.DoFind, N: n, Day: day, Days: days} }

func hold(n, day, minute int, who ...int) api.Do {
	return api.Do{Kind: api.DoHold, N: n, Slot: slot(day, minute, who...)}
}

func confirm(n int) api.Do { return api.Do{Kind: api.DoConfirm, N: n} }

func cancel(n int) api.Do { return api.Do{Kind: api.DoCancel, N: n} }

func move(n, day, minute int, who ...int) api.Do {
	return api.Do{Kind: api.DoMove, N: n, Slot: slot(day, minute, who...)}
}

func tick(n int) api.Do { return api.Do{Kind: api.DoTick, Days: n} }

func slot(day, minute int, who ...int) api.Slot {
	return api.Slot{Day: day, Minute: minute, Who: who}
}

func pool(l ...int) []int { return l }

func dos(l ...api.Do) []api.Do { return l }

// upTo is the pool of so many resources, from 0 on.
func upTo(n int) []int {
	var l []int
	for i := range n {
		l = append(l, i)
	}
	return l
}

// step is a command, what comes of it, and how often the machine has run then.
type step struct {
	do   api.Do
	want api.Answer
	runs int
}

func fine(do api.Do, runs int) step { return step{do, api.Answer{}, runs} }

func made(do api.Do, num, runs int) step { return step{do, api.Answer{Num: num}, runs} }

func offered(do api.Do, runs, day, minute int, who ...int) step {
	return step{do, api.Answer{Slot: slot(day, minute, who...)}, runs}
}

func listed(do api.Do, runs int, l ...int) step { return step{do, api.Answer{List: l}, runs} }

func no(do api.Do, err api.Errno, runs int) step { return step{do, api.Answer{Err: err}, runs} }

// outcome is all that Play answers, but for the error.
type outcome struct {
	desk    api.Desk
	answers []api.Answer
	runs    int
}

// roomy copies commands, with one more, and in each list of theirs something more, in the spare room.
func roomy(l []api.Do) []api.Do {
	out := append(slices.Clone(l), rules("rule spare = always;"))
	for i, c := range out {
		out[i].Slot.Who = append(slices.Clone(c.Slot.Who), 0)[:len(c.Slot.Who)]
		roles := append(slices.Clone(c.Service.Roles), pool(0))
		for j, p := range roles {
			roles[j] = append(slices.Clone(p), 0)[:len(p)]
		}
		out[i].Service.Roles = roles[:len(c.Service.Roles)]
	}
	return out[:len(l)]
}

// told tells a value, with the spare room of its lists.
func told(v reflect.Value) string {
	switch v.Kind() {
	case reflect.Slice:
		v = v.Slice(0, v.Cap())
		var parts []string
		for i := range v.Len() {
			parts = append(parts, told(v.Index(i)))
		}
		return "[" + strings.Join(parts, " ") + "]"
	case reflect.Struct:
		var parts []string
		for i := range v.NumField() {
			parts = append(parts, told(v.Field(i)))
		}
		return "{" + strings.Join(parts, " ") + "}"
	}
	return fmt.Sprintf("%#v", v)
}

// place is the memory of a list, from one address to less than another.
type place struct{ from, to uintptr }

// places are the memory of all lists of a value, the spare room too.
func places(v reflect.Value) []place {
	var l []place
	switch v.Kind() {
	case reflect.Slice:
		if bytes := uintptr(v.Cap()) * v.Type().Elem().Size(); bytes > 0 {
			l = append(l, place{v.Pointer(), v.Pointer() + bytes})
		}
		for i := range v.Len() {
			l = append(l, places(v.Index(i))...)
		}
	case reflect.Struct:
		for i := range v.NumField() {
			l = append(l, places(v.Field(i))...)
		}
	}
	return l
}

// apart asks that no two lists share memory.
func apart(t *testing.T, l []place) {
	t.Helper()
	slices.SortFunc(l, func(a, b place) int { return int(a.from) - int(b.from) })
	for i := 1; i < len(l); i++ {
		if l[i].from < l[i-1].to {
			t.Fatalf("two lists, of what was handed in or answered, share memory")
		}
	}
}

// played asks Play, and sees that what was handed in is as it was, its spare room too, and shares no memory with what is answered, nor any two lists of that.
func played(t *testing.T, l []api.Do) (outcome, api.Errno) {
	t.Helper()
	handed := roomy(l)
	ahead := told(reflect.ValueOf(handed))
	d, answers, runs, err := desk.Play(handed)
	if told(reflect.ValueOf(handed)) != ahead {
		t.Fatalf("the commands that were handed in have changed: %v", handed)
	}
	apart(t, slices.Concat(places(reflect.ValueOf(handed)), places(reflect.ValueOf(d)), places(reflect.ValueOf(answers))))
	return outcome{d, answers, runs}, err
}

// play asks for as many answers as there are commands, and no error.
func play(t *testing.T, l []api.Do) outcome {
	t.Helper()
	out, err := played(t, l)
	if err != api.OK || len(out.answers) != len(l) {
		t.Fatalf("Play of %d commands is %d answers and error %d", len(l), len(out.answers), err)
	}
	return out
}

// same asks that two things are told alike: nil and empty lists are.
func same(t *testing.T, what string, got, want any) {
	t.Helper()
	if g, w := fmt.Sprintf("%+v", got), fmt.Sprintf("%+v", want); g != w {
		t.Errorf("%s: %s comes, not %s", what, g, w)
	}
}

// script plays some commands, then one more, and so on, and asks each time for what comes of the last one, and how often the machine ran; it tells the desk in the end.
func script(t *testing.T, l ...step) api.Desk {
	t.Helper()
	var commands []api.Do
	var out outcome
	for i, s := range l {
		commands = append(commands, s.do)
		out = play(t, commands)
		what := fmt.Sprintf("%d: %+v", i, s.do)
		same(t, what, out.answers[i], s.want)
		same(t, what+" (runs)", out.runs, s.runs)
	}
	return out.desk
}

// scripted is what a script begins with, where it is not what is to be tested: as many runs as there were by then.
func scripted(t *testing.T, l ...api.Do) []step {
	t.Helper()
	var steps []step
	for i := range l {
		out := play(t, l[:i+1])
		if out.answers[i].Err != api.OK {
			t.Fatalf("%d: %+v is refused: %d", i, l[i], out.answers[i].Err)
		}
		steps = append(steps, step{l[i], out.answers[i], out.runs})
	}
	return steps
}
