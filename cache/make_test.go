package cache_test

import (
	"reflect"
	"slices"
	"testing"

	"slotrules/api"
	"slotrules/cache"
	"slotrules/masks"
	"slotrules/vm"
)

// someDay is November 15, 2026, a Sunday.
const someDay = 9815

// code is a rule's code, one high, that says so many steps.
func code(steps int, l ...api.Ins) api.Code { return api.Code{Ins: l, High: 1, Steps: steps} }

// plainly is code that says as many steps as it has instructions.
func plainly(l ...api.Ins) api.Code { return code(len(l), l...) }

func spansOf(l ...api.Span) api.Ins { return api.Ins{Op: api.ISpans, Spans: l} }

// rules is right code: 09:00-10:00; that one, an hour later; all day on Sundays; the first hour on some days from someDay on.
func rules() []api.Code {
	return []api.Code{
		code(1, spansOf(api.Span{A: 540, B: 600})),
		code(3, api.Ins{Op: api.ICall, A: 0}, api.Ins{Op: api.IShift, A: 60}),
		code(2, api.Ins{Op: api.IWeek, A: 1 << api.Sunday, To: 2}, spansOf(api.Span{A: 0, B: api.Minutes})),
		code(2, api.Ins{Op: api.IDates, A: someDay, B: someDay + 9, To: 2}, spansOf(api.Span{A: 0, B: 60})),
	}
}

// meant is what a rule of rules means on a day.
func meant(rule, day int) api.Mask {
	var spans []api.Span
	switch {
	case rule == 0:
		spans = []api.Span{{A: 540, B: 600}}
	case rule == 1:
		spans = []api.Span{{A: 600, B: 660}}
	case rule == 2 && (day-someDay)%7 == 0:
		spans = []api.Span{{A: 0, B: api.Minutes}}
	case rule == 3 && someDay <= day && day <= someDay+9:
		spans = []api.Span{{A: 0, B: 60}}
	}
	return masks.Of(spans)
}

// seal is a mask that no code leaves: it has bits behind the last minute.
func seal(n int) api.Mask { return api.Mask{0: uint64(n), api.Words - 1: 1 << 63} }

// sealed is something that is kept, with a mask that tells where it came from.
func sealed(rule, day, version, n int) api.Kept {
	return api.Kept{Rule: rule, Day: day, Version: version, Mask: seal(n)}
}

// row is so many things that are kept, of rule 0 as of version 1, on someDay and the days behind it.
func row(n int) []api.Kept {
	var l []api.Kept
	for i := range n {
		l = append(l, sealed(0, someDay+i, 1, i))
	}
	return l
}

// made is what the machine left and is kept.
func made(version, rule, day int) api.Kept {
	return api.Kept{Rule: rule, Day: day, Version: version, Mask: meant(rule, day)}
}

// list is some things behind each other.
func list(parts ...any) []api.Kept {
	var out []api.Kept
	for _, p := range parts {
		switch x := p.(type) {
		case api.Kept:
			out = append(out, x)
		case []api.Kept:
			out = append(out, x...)
		}
	}
	return out
}

// roomy copies a list, with what is asked for in its spare room: whoever looks there finds it.
func roomy(l []api.Kept, spare api.Kept) []api.Kept {
	return append(slices.Clone(l), spare)[:len(l)]
}

// roomyCode copies code, with wrong code in its spare room.
func roomyCode(l []api.Code) []api.Code {
	out := append(slices.Clone(l), api.Code{High: -1})
	for i := range out {
		out[i].Ins = append(slices.Clone(out[i].Ins), api.Ins{Op: 77})[:len(out[i].Ins)]
	}
	return out[:len(l)]
}

// spread is all of the memory of code.
func spread(l []api.Code) []api.Code {
	out := slices.Clone(l[:cap(l)])
	for i := range out {
		out[i].Ins = slices.Clone(out[i].Ins[:cap(out[i].Ins)])
	}
	return out
}

// scribble writes on all of a list's memory.
func scribble(l []api.Kept, n int) {
	l = l[:cap(l)]
	for i := range l {
		l[i] = sealed(-n, -n, -n, n)
	}
}

// get asks Get, and sees that what was handed in is as it was, its spare room too, and shares no memory with what is answered.
func get(t *testing.T, c api.Cache, l []api.Code, version, rule, day int) (api.Mask, api.Cache, api.Fault) {
	t.Helper()
	spare := sealed(rule, day, version, 777)
	handed := api.Cache{Kept: roomy(c.Kept, spare), Runs: c.Runs}
	codes := roomyCode(l)
	kept, spreadOut := slices.Clone(handed.Kept[:cap(handed.Kept)]), spread(codes)
	mask, got, fault := cache.Get(handed, codes, version, rule, day)
	if !slices.Equal(kept, handed.Kept[:cap(handed.Kept)]) || handed.Runs != c.Runs {
		t.Errorf("the cache that was handed in has changed: %s", told(handed))
	}
	if !reflect.DeepEqual(spreadOut, spread(codes)) {
		t.Errorf("the code that was handed in has changed: %v", codes)
	}
	answer := slices.Clone(got.Kept)
	scribble(handed.Kept, 5)
	if !slices.Equal(answer, got.Kept) {
		t.Errorf("what is answered shares memory with what was handed in")
	}
	scribble(got.Kept, 6)
	if slices.Contains(handed.Kept[:cap(handed.Kept)], sealed(-6, -6, -6, 6)) {
		t.Errorf("what was handed in shares memory with what is answered")
	}
	return mask, api.Cache{Kept: answer, Runs: got.Runs}, fault
}

// plainGet is the document's words, one by one.
func plainGet(c api.Cache, l []api.Code, version, rule, day int) (api.Mask, api.Cache, api.Fault) {
	var others, first []api.Kept
	for _, k := range c.Kept {
		if len(first) == 0 && k.Rule == rule && k.Day == day {
			first = append(first, k)
		} else {
			others = append(others, k)
		}
	}
	for _, k := range first {
		if k.Version == version {
			return k.Mask, api.Cache{Kept: append(others, k), Runs: c.Runs}, api.Fault{}
		}
	}
	mask, _, fault := vm.Run(l, rule, day)
	if fault != (api.Fault{}) {
		return api.Mask{}, api.Cache{}, fault
	}
	others = append(others, api.Kept{Rule: rule, Day: day, Version: version, Mask: mask})
	for len(others) > api.MaxKept {
		others = others[1:]
	}
	return mask, api.Cache{Kept: others, Runs: c.Runs + 1}, api.Fault{}
}
