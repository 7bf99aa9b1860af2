package vm_test

import (
	"math"
	"math/rand"
	"strconv"
	"strings"
	"testing"

	"slotrules/api"
	compiler "slotrules/code"
	"slotrules/masks"
	"slotrules/mean"
	"slotrules/parse"
	"slotrules/vm"
)

// runs asks for what a rule's code leaves on a day, and for how many instructions it came to.
func runs(t *testing.T, l []api.Code, rule, day, steps int, want ...api.Span) {
	t.Helper()
	mask, n, fault := vm.Run(l, rule, day)
	if fault != (api.Fault{}) || n != steps || mask != masks.Of(want) {
		t.Errorf("Run(%s, %d, %d) is %v, %d, %v, not %v, %d", short(l), rule, day, masks.Spans(mask), n, fault, want, steps)
	}
}

// alone runs the code of one rule.
func alone(t *testing.T, day, high, steps int, want []api.Span, ins ...api.Ins) {
	t.Helper()
	runs(t, []api.Code{code(high, len(ins), ins...)}, 0, day, steps, want...)
}

// fails asks for a fault at 0, with no mask and no steps.
func fails(t *testing.T, l []api.Code, rule, day int, err api.Errno) {
	t.Helper()
	mask, n, fault := vm.Run(l, rule, day)
	if want := (api.Fault{Err: err}); fault != want || n != 0 || mask != (api.Mask{}) {
		t.Errorf("Run(%s, %d, %d) is %v, %d, %v, not %v", short(l), rule, day, mask, n, fault, want)
	}
}

func span(a, b int) []api.Span { return []api.Span{{A: a, B: b}} }

func TestH3Spans(t *testing.T) {
	last := api.Minutes
	for _, l := range [][]api.Span{
		nil, {}, {{A: 0, B: 1}}, {{A: 0, B: last}}, {{A: last - 1, B: last}}, {{A: 5, B: 9}, {A: 10, B: 11}}, {{A: 63, B: 65}, {A: 128, B: 192}, {A: 1439, B: 1440}},
	} {
		alone(t, someDay, 1, 1, l, spansOf(l...))
	}
}

func TestH3TwoMasks(t *testing.T) {
	a, b := spansOf(api.Span{A: 0, B: 20}), spansOf(api.Span{A: 10, B: 30})
	alone(t, someDay, 2, 3, span(0, 30), a, b, union)
	alone(t, someDay, 2, 3, span(10, 20), a, b, both)
	// The lower one without the upper one.
	alone(t, someDay, 2, 3, span(0, 10), a, b, diff)
	alone(t, someDay, 2, 3, span(20, 30), b, a, diff)
	alone(t, someDay, 2, 3, nil, a, a, diff)
	alone(t, someDay, 2, 3, span(0, 20), a, nothing, diff)
	alone(t, someDay, 2, 3, nil, nothing, a, diff)
	alone(t, someDay, 2, 3, []api.Span{{A: 0, B: 540}, {A: 600, B: 1440}}, whole, nine, diff)
	// From the left, and from the right.
	c := spansOf(api.Span{A: 15, B: 40})
	alone(t, someDay, 2, 5, span(0, 10), a, b, diff, c, diff)
	alone(t, someDay, 3, 5, span(0, 10), a, b, c, union, diff)
	alone(t, someDay, 3, 5, []api.Span{{A: 0, B: 10}, {A: 15, B: 20}}, a, b, c, diff, diff)
	alone(t, someDay, 3, 5, []api.Span{{A: 0, B: 15}}, a, b, c, both, diff)
	alone(t, someDay, 3, 6, []api.Span{{A: 0, B: 16}}, a, b, c, both, by(1), diff)
}

func TestH3Shifts(t *testing.T) {
	alone(t, someDay, 1, 2, span(600, 660), nine, by(60))
	alone(t, someDay, 1, 2, span(480, 540), nine, by(-60))
	alone(t, someDay, 1, 3, span(545, 605), nine, by(60), by(-55))
	// What leaves the day is lost.
	alone(t, someDay, 1, 2, span(1439, 1440), whole, by(api.Minutes-1))
	alone(t, someDay, 1, 2, span(0, 1), whole, by(1-api.Minutes))
	alone(t, someDay, 1, 3, span(0, 1340), whole, by(100), by(-100))
	alone(t, someDay, 1, 3, span(100, 1440), whole, by(-100), by(100))
	alone(t, someDay, 1, 2, nil, nine, by(900))
	alone(t, someDay, 1, 2, nil, nothing, by(1))
	// Of the upper one alone.
	alone(t, someDay, 2, 4, []api.Span{{A: 540, B: 600}, {A: 640, B: 700}}, nine, nine, by(100), union)
}

func TestH3GuardsOnTheirDays(t *testing.T) {
	for week := range 7 {
		for day := range 14 {
			// Day 0 is a Saturday.
			if (day+api.Saturday)%7 == week {
				alone(t, day, 1, 2, span(540, 600), weekTo(1<<week, 2), nine)
				alone(t, day, 1, 1, nil, weekTo(127-1<<week, 2), nine)
			} else {
				alone(t, day, 1, 1, nil, weekTo(1<<week, 2), nine)
				alone(t, day, 1, 2, span(540, 600), weekTo(127-1<<week, 2), nine)
			}
			alone(t, day, 1, 2, span(540, 600), weekTo(127, 2), nine)
		}
	}
	last := api.MaxDays - 1
	for _, c := range []struct {
		a, b, day int
		on        bool
	}{
		{5, 9, 4, false}, {5, 9, 5, true}, {5, 9, 7, true}, {5, 9, 9, true}, {5, 9, 10, false}, {7, 7, 6, false}, {7, 7, 7, true}, {7, 7, 8, false},
		{0, 0, 0, true}, {0, 0, 1, false}, {0, 0, last, false}, {0, last, 0, true}, {0, last, last, true}, {last, last, last, true}, {last, last, last - 1, false}, {last, last, 0, false},
	} {
		if c.on {
			alone(t, c.day, 1, 2, span(540, 600), datesTo(c.a, c.b, 2), nine)
		} else {
			alone(t, c.day, 1, 1, nil, datesTo(c.a, c.b, 2), nine)
		}
	}
	// December 31, 2399 is a Friday.
	alone(t, last, 1, 2, span(540, 600), weekTo(1<<api.Friday, 2), nine)
}

func TestH3WhereGuardsGoOn(t *testing.T) {
	never := datesTo(0, 0, 0)
	to := func(n int) api.Ins {
		never.To = n
		return never
	}
	// How much is left out, and what is done with the empty mask.
	alone(t, someDay, 1, 3, nil, to(2), nine, by(1), by(1))
	alone(t, someDay, 1, 2, nil, to(3), nine, by(1), by(1))
	alone(t, someDay, 1, 1, nil, to(4), nine, by(1), by(1))
	alone(t, 0, 1, 4, span(542, 602), to(2), nine, by(1), by(1))
	alone(t, 0, 1, 4, span(542, 602), to(4), nine, by(1), by(1))
	alone(t, someDay, 2, 3, span(540, 600), to(2), nine, nine, union)
	alone(t, someDay, 2, 3, nil, to(2), nine, nine, both)
	alone(t, someDay, 2, 3, nil, to(2), nine, whole, diff)
	alone(t, someDay, 2, 3, span(0, 1440), whole, to(3), nine, diff)
	alone(t, 0, 2, 4, []api.Span{{A: 0, B: 540}, {A: 600, B: 1440}}, whole, to(3), nine, diff)
	alone(t, someDay, 2, 1, nil, to(4), whole, nine, diff)
}

func TestH3GuardsWithinGuards(t *testing.T) {
	// Sundays in two weeks, of which someDay is one.
	ins := []api.Ins{datesTo(someDay-7, someDay+6, 5), weekTo(64, 3), nine, whole, both, by(5)}
	alone(t, someDay, 2, 6, span(545, 605), ins...)
	alone(t, someDay-7, 2, 6, span(545, 605), ins...)
	alone(t, someDay+1, 2, 5, nil, ins...)
	alone(t, someDay+6, 2, 5, nil, ins...)
	alone(t, someDay+7, 2, 2, nil, ins...)
	alone(t, someDay-8, 2, 2, nil, ins...)
	// To one place, and across each other.
	ins = []api.Ins{weekTo(64, 3), datesTo(someDay, someDay, 3), nine}
	alone(t, someDay, 1, 3, span(540, 600), ins...)
	alone(t, someDay+7, 1, 2, nil, ins...)
	alone(t, someDay+1, 1, 1, nil, ins...)
	ins = []api.Ins{weekTo(64, 3), datesTo(someDay, someDay, 4), nine, by(1)}
	alone(t, someDay, 1, 4, span(541, 601), ins...)
	alone(t, someDay+7, 1, 2, nil, ins...)
	alone(t, someDay+1, 1, 2, nil, ins...)
}

func TestH3Calls(t *testing.T) {
	l := []api.Code{
		code(1, 3, call(2), by(60)),
		code(1, 4, call(0)),
		code(1, 1, spansOf(api.Span{A: 0, B: 100})),
		code(2, 10, call(0), call(0), by(10), diff),
		code(3, 14, call(2), call(3), diff),
		code(2, 9, weekTo(64, 2), call(1), call(2), both),
	}
	// Of one behind, and of one ahead that calls it.
	runs(t, l, 0, someDay, 3, span(60, 160)...)
	runs(t, l, 1, someDay, 4, span(60, 160)...)
	runs(t, l, 2, someDay, 1, span(0, 100)...)
	// Of one twice: the lower one without the upper one, that is shifted.
	runs(t, l, 3, someDay, 10, span(60, 70)...)
	// Upon what lies there already, which stays.
	runs(t, l, 4, someDay, 14, api.Span{A: 0, B: 60}, api.Span{A: 70, B: 100})
	// What is left out is not called, and not counted.
	runs(t, l, 5, someDay, 9, span(60, 100)...)
	runs(t, l, 5, someDay+1, 4)
}

func TestH3GuardsOfWhatIsCalled(t *testing.T) {
	// The day is the same, and places are those of the code that is called.
	l := []api.Code{
		code(2, 9, call(1), weekTo(96, 3), call(1), union, by(1)),
		code(1, 2, datesTo(someDay, someDay+1, 2), nine),
	}
	runs(t, l, 0, someDay, 9, span(541, 601)...)
	runs(t, l, 0, someDay+1, 6, span(541, 601)...)
	runs(t, l, 0, someDay-1, 7)
	runs(t, l, 0, someDay+2, 5)
	runs(t, l, 1, someDay+1, 2, span(540, 600)...)
	runs(t, l, 1, someDay+2, 1)
}

func TestH3TheLongestAndTheHighest(t *testing.T) {
	runs(t, []api.Code{longest(api.MaxCode)}, 0, someDay, api.MaxCode)
	runs(t, []api.Code{longest(61)}, 0, someDay, 61, span(600, 660)...)
	runs(t, []api.Code{code(api.MaxHigh, 2*api.MaxHigh-1, piled(api.MaxHigh)...)}, 0, someDay, 2*api.MaxHigh-1, span(540, 600)...)
	// Rules that each call the next one twice: 2 * s + 3 steps of s.
	l := make([]api.Code, 13)
	for i := range l {
		l[i] = code(13-i, 1<<(14-i)-3, call(i+1), call(i+1), union)
	}
	l[12] = fine
	runs(t, l, 0, someDay, 16381, span(540, 600)...)
	// Just MaxSteps.
	ins := append(repeated(9, call(1)), repeated(8, both)...)
	ins = append(ins, repeated(1983, by(-1))...)
	l = []api.Code{code(9, api.MaxSteps, ins...), code(1, api.MaxCode, append([]api.Ins{whole}, repeated(api.MaxCode-1, by(1))...)...)}
	runs(t, l, 0, someDay, api.MaxSteps)
	runs(t, l, 1, someDay, api.MaxCode)
	// As many within each other as there are rules.
	l = make([]api.Code, api.MaxRules)
	for i := range l {
		l[i] = code(1, 2*(api.MaxRules-i)-1, call(i+1), by(1))
	}
	l[api.MaxRules-1] = fine
	runs(t, l, 0, someDay, 2*api.MaxRules-1, span(579, 639)...)
}

func TestH3FieldsThatAKindHasNot(t *testing.T) {
	none := []api.Span{{A: 0, B: 99}}
	l := []api.Code{fine, code(2, 9,
		api.Ins{Op: api.ISpans, A: 5, B: 7, To: 5, Spans: []api.Span{{A: 0, B: 570}}},
		api.Ins{Op: api.IWeek, A: 64, B: 3, To: 3, Spans: none},
		api.Ins{Op: api.ICall, B: 1, To: 7, Spans: none},
		api.Ins{Op: api.IDiff, A: 30, B: 9, To: 7, Spans: none},
		api.Ins{Op: api.IDates, A: someDay, B: someDay, To: 6, Spans: none},
		api.Ins{Op: api.ISpans, A: 6, Spans: []api.Span{{A: 500, B: 540}}},
		api.Ins{Op: api.IBoth, A: 30, B: 9, To: 3, Spans: none},
		api.Ins{Op: api.IShift, A: 30, B: 9, To: 3, Spans: none},
	)}
	runs(t, l, 1, someDay, 9, span(530, 570)...)
	runs(t, l, 1, someDay+1, 6)
	runs(t, l, 1, someDay+7, 8)
}

func TestH3NoSuchRuleAndNoSuchDay(t *testing.T) {
	three := []api.Code{fine, code(1, 2, call(0)), code(1, 3, call(1))}
	for _, l := range [][]api.Code{nil, {}, three[:1], three} {
		for _, rule := range append([]int{-1, len(l), len(l) + 1}, far...) {
			for _, day := range []int{0, someDay, api.MaxDays - 1, -1, api.MaxDays, math.MinInt} {
				fails(t, l, rule, day, api.ErrNone)
			}
		}
	}
	for rule := range three {
		for _, day := range append([]int{-1, api.MaxDays, -7, api.MaxDays + 1}, far...) {
			fails(t, three, rule, day, api.ErrRange)
		}
		for _, day := range []int{0, 1, api.MaxDays - 1} {
			runs(t, three, rule, day, rule+1, span(540, 600)...)
		}
	}
	// A rule behind the last one is none, whatever lies there.
	fails(t, three[:2], 2, someDay, api.ErrNone)
	runs(t, three[:2], 1, someDay, 2, span(540, 600)...)
}

func TestH3WhatIsWrongElsewhereIsToldToo(t *testing.T) {
	l := []api.Code{fine, code(1, 2, nine)}
	for rule := -1; rule < 3; rule++ {
		for _, day := range []int{someDay, -1} {
			if _, steps, fault := vm.Run(l, rule, day); fault != (api.Fault{Err: api.ErrFit, At: 1}) || steps != 0 {
				t.Errorf("Run of rule %d on day %d is %d, %v", rule, day, steps, fault)
			}
		}
	}
}

func TestH3ByTheDocumentsWords(t *testing.T) {
	r := rand.New(rand.NewSource(13))
	long, some, fewer := 0, 0, 0
	for range 1500 {
		l := anyCodes(r, 1+r.Intn(4))
		rule := r.Intn(len(l))
		day := someDay - 4 + r.Intn(9)
		want, steps := plainRun(l, rule, day)
		mask, n, fault := vm.Run(l, rule, day)
		if fault != (api.Fault{}) || mask != want.mask() || n != steps {
			t.Fatalf("Run(%v, %d, %d) is %v, %d, %v, not %v, %d", l, rule, day, masks.Spans(mask), n, fault, masks.Spans(want.mask()), steps)
		}
		if n > l[rule].Steps {
			t.Fatalf("Run(%v, %d, %d) takes %d steps", l, rule, day, n)
		}
		if n > 10 {
			long++
		}
		if n < l[rule].Steps {
			fewer++
		}
		if mask != (api.Mask{}) {
			some++
		}
	}
	if long < 200 || some < 300 || fewer < 300 {
		t.Errorf("only %d are long, %d not empty, %d in fewer steps than told", long, some, fewer)
	}
}

// anyText writes an expression, at most so deep, of rules below a number.
func anyText(r *rand.Rand, deep, rules int) string {
	kid := func() string { return "(" + anyText(r, deep-1, rules) + ")" }
	kind := r.Intn(8)
	if deep <= 1 {
		kind = r.Intn(3)
	}
	switch kind {
	case 0:
		return []string{"08:00-12:00", "10:30-17:15", "00:00-24:00", "23:00-24:00", "always", "never"}[r.Intn(6)]
	case 1:
		return "09:0" + strconv.Itoa(r.Intn(10)) + "-1" + strconv.Itoa(r.Intn(10)) + ":00"
	case 2:
		if rules == 0 {
			return "11:00-11:30"
		}
		return "r" + strconv.Itoa(r.Intn(rules))
	case 3:
		return "weekly " + []string{"sun", "mon,wed,fri", "sat,sun", "tue,thu"}[r.Intn(4)] + ": " + kid()
	case 4:
		return "dates 2026-11-1" + []string{"5", "2..2026-11-15", "6..2026-11-18", "4..2026-11-16"}[r.Intn(4)] + ": " + kid()
	case 5:
		return kid() + " shift " + []string{"5", "-30", "90", "-500"}[r.Intn(4)]
	}
	return kid() + []string{" + ", " - ", " & "}[r.Intn(3)] + kid()
}

func TestH3TheMachineIsRight(t *testing.T) {
	r := rand.New(rand.NewSource(14))
	for range 400 {
		var s strings.Builder
		for i := range 1 + r.Intn(5) {
			s.WriteString("rule r" + strconv.Itoa(i) + " = " + anyText(r, 5, i) + ";")
		}
		rules, fault := parse.Parse(s.String())
		l, wrong := compiler.Compile(rules)
		if fault != (api.Fault{}) || wrong != (api.Fault{}) {
			t.Fatalf("%q is %v, %v", s.String(), fault, wrong)
		}
		right(t, l...)
		for day := someDay - 4; day < someDay+5; day++ {
			meant, _ := mean.All(rules, day)
			for i := range l {
				mask, steps, fault := vm.Run(l, i, day)
				if fault != (api.Fault{}) || mask != meant[i] || steps < 1 || steps > l[i].Steps {
					t.Fatalf("rule %d of %q is %v on day %d, in %d steps, %v, not %v", i, s.String(), masks.Spans(mask), day, steps, fault, masks.Spans(meant[i]))
				}
			}
		}
	}
}

func TestH3CodeMayChangeBehindTheCall(t *testing.T) {
	l := []api.Code{code(1, 1, spansOf(api.Span{A: 540, B: 600}))}
	first, _, _ := vm.Run(l, 0, someDay)
	l[0].Ins[0].Spans[0] = api.Span{A: 1, B: 2}
	runs(t, l, 0, someDay, 1, span(1, 2)...)
	if first != masks.Of(span(540, 600)) {
		t.Errorf("what was answered has become %v", masks.Spans(first))
	}
}
