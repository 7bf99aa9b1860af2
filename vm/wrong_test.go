package vm_test

import (
	"fmt"
	"math"
	"math/rand"
	"reflect"
	"slices"
	"testing"

	"slotrules/api"
	"slotrules/vm"
)

// someDay is November 15, 2026, a Sunday.
const someDay = 9815

var (
	nothing = spansOf()
	whole   = spansOf(api.Span{A: 0, B: api.Minutes})
	nine    = spansOf(api.Span{A: 540, B: 600})
	union   = sign(api.IUnion)
	diff    = sign(api.IDiff)
	both    = sign(api.IBoth)
	fine    = code(1, 1, nine)
	far     = []int{math.MinInt, math.MaxInt, math.MinInt + 1, math.MaxInt - 1, math.MinInt32, math.MaxInt32, 1 << 32, -1 << 32}
)

// short tells a value, of a long one its beginning.
func short(v any) string {
	return fmt.Sprintf("%.400s", fmt.Sprint(v))
}

// wrong asks Wrong for a fault, and Run for the same, of whatever rule and day, with no mask and no steps.
func wrong(t *testing.T, err api.Errno, at int, l ...api.Code) {
	t.Helper()
	want := api.Fault{Err: err, At: at}
	if got := vm.Wrong(l); got != want {
		t.Errorf("Wrong(%s) is %v, not %v", short(l), got, want)
	}
	for _, rule := range []int{0, at, -1, len(l), math.MaxInt} {
		for _, day := range []int{0, someDay, -1, api.MaxDays} {
			if mask, steps, got := vm.Run(l, rule, day); got != want || steps != 0 || mask != (api.Mask{}) {
				t.Errorf("Run(%s, %d, %d) is %v, %d, %v, not %v", short(l), rule, day, mask, steps, got, want)
			}
		}
	}
}

// right asks Wrong for no fault.
func right(t *testing.T, l ...api.Code) {
	t.Helper()
	if got := vm.Wrong(l); got != (api.Fault{}) {
		t.Errorf("Wrong(%s) is %v", short(l), got)
	}
}

// wrongIns asks for an error of one instruction, wherever its rule stands; behind it lies enough for all that it may ask for.
func wrongIns(t *testing.T, err api.Errno, ins api.Ins) {
	t.Helper()
	c := code(1, 4, ins, nine, by(1), by(1))
	wrong(t, err, 0, c)
	wrong(t, err, 0, c, fine)
	wrong(t, err, 1, fine, c)
	wrong(t, err, 2, fine, fine, c, c)
}

func TestH1NoCode(t *testing.T) {
	right(t)
	right(t, []api.Code{}...)
	right(t, make([]api.Code, 0, 3)...)
}

func TestH1HowManyRules(t *testing.T) {
	right(t, slices.Repeat([]api.Code{fine}, api.MaxRules)...)
	wrong(t, api.ErrMany, 0, slices.Repeat([]api.Code{fine}, api.MaxRules+1)...)
	wrong(t, api.ErrMany, 0, make([]api.Code, api.MaxRules+1)...)
	// Ahead of all that is wrong with the rules.
	l := slices.Repeat([]api.Code{fine}, api.MaxRules+1)
	l[0] = code(0, 0, api.Ins{})
	wrong(t, api.ErrMany, 0, l...)
	wrong(t, api.ErrMuch, 0, l[:api.MaxRules]...)
	// The last rule is as good as the others, to be called and to call.
	l = slices.Repeat([]api.Code{code(1, 2, call(api.MaxRules-1))}, api.MaxRules)
	l[api.MaxRules-1] = fine
	right(t, l...)
	l[api.MaxRules-1] = code(1, 2, call(api.MaxRules))
	wrong(t, api.ErrNone, api.MaxRules-1, l...)
}

func TestH1HowManyInstructions(t *testing.T) {
	right(t, fine)
	right(t, longest(2))
	right(t, longest(api.MaxCode-1))
	right(t, longest(api.MaxCode), fine, longest(api.MaxCode))
	wrong(t, api.ErrMany, 0, longest(api.MaxCode+1))
	wrong(t, api.ErrMany, 1, longest(api.MaxCode), longest(api.MaxCode+1))
	wrong(t, api.ErrMany, 0, code(1, 1))
	wrong(t, api.ErrMany, 0, api.Code{Ins: []api.Ins{}, High: 1, Steps: 1})
	wrong(t, api.ErrMany, 1, fine, code(1, 1), fine)
	// Ahead of what else is wrong with that rule.
	wrong(t, api.ErrMany, 0, api.Code{})
	wrong(t, api.ErrMany, 0, code(0, 0, repeated(api.MaxCode+1, api.Ins{})...))
}

func TestH1HighAndSteps(t *testing.T) {
	for _, high := range append([]int{0, -1, api.MaxHigh + 1, api.MaxHigh + 2}, far...) {
		wrong(t, api.ErrMuch, 0, code(high, 1, nine))
		wrong(t, api.ErrMuch, 1, fine, code(high, 1, nine))
	}
	for _, steps := range append([]int{0, -1, api.MaxSteps + 1, api.MaxSteps + 2}, far...) {
		wrong(t, api.ErrMuch, 0, code(1, steps, nine))
		wrong(t, api.ErrMuch, 1, fine, code(1, steps, nine))
	}
	// At both ends they may be, if they are as told.
	right(t, code(api.MaxHigh, 2*api.MaxHigh-1, piled(api.MaxHigh)...))
	wrong(t, api.ErrMuch, 0, code(api.MaxHigh+1, 2*api.MaxHigh+1, piled(api.MaxHigh+1)...))
	wrong(t, api.ErrFit, 0, code(api.MaxHigh, 2*api.MaxHigh+1, piled(api.MaxHigh+1)...))
	wrong(t, api.ErrFit, 0, code(api.MaxHigh, 1, nine))
	wrong(t, api.ErrFit, 0, code(1, api.MaxSteps, nine))
	// Ahead of what is wrong with its instructions.
	wrong(t, api.ErrMuch, 0, code(0, 1, api.Ins{}))
	wrong(t, api.ErrMuch, 0, code(1, 0, api.Ins{}))
	wrong(t, api.ErrKind, 0, code(1, 1, api.Ins{}))
}

func TestH1JustMaxSteps(t *testing.T) {
	// Nine calls of MaxCode steps and their unions are 18017 steps.
	ins := append(repeated(9, call(1)), repeated(8, union)...)
	ins = append(ins, repeated(1983, by(1))...)
	l := []api.Code{code(9, api.MaxSteps, ins...), longest(api.MaxCode)}
	right(t, l...)
	right(t, l[1], code(9, api.MaxSteps, append(repeated(9, call(0)), ins[9:]...)...))
	l[0].Steps--
	wrong(t, api.ErrFit, 0, l...)
	l[0].Steps = api.MaxSteps + 1
	wrong(t, api.ErrMuch, 0, l...)
	// One that calls one of just MaxSteps takes too many, whatever it says.
	wrong(t, api.ErrFit, 0, code(9, api.MaxSteps, call(1)), code(9, api.MaxSteps, append(repeated(9, call(2)), ins[9:]...)...), l[1])
	wrong(t, api.ErrMuch, 0, code(9, api.MaxSteps+1, call(1)), code(9, api.MaxSteps, append(repeated(9, call(2)), ins[9:]...)...), l[1])
}

func TestH1Kinds(t *testing.T) {
	for _, op := range append([]int{0, -1, 9, 10, 64, 128, 256 + api.ISpans}, far...) {
		wrongIns(t, api.ErrKind, api.Ins{Op: op})
		wrongIns(t, api.ErrKind, api.Ins{Op: op, A: 1, B: 2, To: 2, Spans: nine.Spans})
	}
}

func TestH1Spans(t *testing.T) {
	last := api.Minutes
	for _, l := range [][]api.Span{
		nil, {}, {{A: 0, B: 1}}, {{A: 0, B: last}}, {{A: last - 1, B: last}}, {{A: 5, B: 9}, {A: 10, B: 11}},
		{{A: 0, B: 1}, {A: 2, B: 3}, {A: last - 1, B: last}}, {{A: 0, B: 1}, {A: 2, B: last}}, {{A: 0, B: last - 2}, {A: last - 1, B: last}},
	} {
		right(t, code(1, 1, spansOf(l...)))
	}
	every := make([]api.Span, api.Minutes/2)
	for i := range every {
		every[i] = api.Span{A: 2 * i, B: 2*i + 1}
	}
	right(t, code(1, 1, spansOf(every...)))
	for _, l := range [][]api.Span{
		{{}}, {{A: -1, B: 9}}, {{A: -1, B: 0}}, {{A: -1, B: -1}}, {{A: -5, B: -2}}, {{A: 5, B: 5}}, {{A: 9, B: 5}}, {{A: last, B: last}}, {{A: 0, B: last + 1}}, {{A: last, B: last + 1}}, {{A: last + 1, B: last + 2}},
		{{A: 5, B: 9}, {A: 9, B: 10}}, {{A: 5, B: 9}, {A: 8, B: 10}}, {{A: 5, B: 9}, {A: 5, B: 9}}, {{A: 5, B: 9}, {A: 1, B: 3}}, {{A: 5, B: 9}, {A: 0, B: 20}}, {{A: 10, B: 11}, {A: 5, B: 9}},
		{{A: 0, B: 1}, {A: 2, B: 3}, {A: 3, B: 4}}, {{A: 0, B: 1}, {A: 4, B: 5}, {A: 2, B: 3}}, {{A: 0, B: 1}, {A: -1, B: 3}}, {{A: 0, B: 1}, {A: 2, B: 2}}, {{A: 0, B: 1}, {A: 2, B: last + 1}},
		{{A: math.MinInt, B: 5}}, {{A: 5, B: math.MaxInt}}, {{A: math.MinInt, B: math.MaxInt}}, {{A: math.MaxInt, B: math.MinInt}}, {{A: 5, B: 9}, {A: math.MinInt, B: 20}}, append(slices.Clone(every), api.Span{A: last - 1, B: last}),
	} {
		wrongIns(t, api.ErrForm, spansOf(l...))
	}
}

func TestH1Shifts(t *testing.T) {
	for _, a := range []int{1, -1, 59, -60, api.Minutes - 1, 1 - api.Minutes} {
		right(t, code(1, 2, nine, by(a)))
	}
	for _, a := range append([]int{0, api.Minutes, -api.Minutes, api.Minutes + 1, -api.Minutes - 1}, far...) {
		wrongIns(t, api.ErrRange, by(a))
		wrong(t, api.ErrRange, 1, fine, code(1, 2, nine, by(a)))
	}
}

func TestH1WhereGuardsGoOn(t *testing.T) {
	for _, guard := range []api.Ins{weekTo(1, 0), datesTo(0, 9, 0)} {
		at := func(to int, more ...api.Ins) []api.Ins {
			guard.To = to
			return append([]api.Ins{guard}, more...)
		}
		right(t, code(1, 2, at(2, nine)...))
		right(t, code(1, 4, at(2, nine, by(1), by(1))...))
		right(t, code(1, 4, at(3, nine, by(1), by(1))...))
		right(t, code(1, 4, at(4, nine, by(1), by(1))...))
		for _, to := range append([]int{0, 1, -1, 5, 6}, far...) {
			wrongIns(t, api.ErrFit, at(to)[0])
		}
		// Ahead of what is wrong with A and B, which is ahead of whether the stack is used well.
		for _, a := range []int{-1, api.MaxDays} {
			guard.A = a
			wrongIns(t, api.ErrFit, at(1)[0])
			wrongIns(t, api.ErrRange, at(2)[0])
		}
		// Behind other instructions it is counted from its own place on.
		guard.A = 1
		guard.B = 2
		right(t, code(2, 4, nine, at(3)[0], nine, union))
		right(t, code(2, 5, nine, at(4)[0], nine, by(1), union))
		wrong(t, api.ErrFit, 0, code(2, 4, nine, at(2)[0], nine, union))
		wrong(t, api.ErrFit, 0, code(2, 4, nine, at(5)[0], nine, union))
		right(t, code(2, 5, nine, by(1), at(4)[0], nine, union), code(1, 1, nine))
		for _, to := range []int{0, 1, 2, 3, 6} {
			// Ahead of all that is wrong behind it.
			wrong(t, api.ErrFit, 0, code(2, 5, nine, by(1), at(to)[0], nine, union))
			wrong(t, api.ErrFit, 0, code(2, 5, nine, by(1), at(to)[0], nine, api.Ins{}))
			wrong(t, api.ErrFit, 0, code(2, 5, nine, by(1), at(to)[0], nine, union), api.Code{})
		}
		// The last one has nothing behind it, and the last but one just one.
		wrong(t, api.ErrFit, 0, code(1, 2, nine, at(2)[0]))
		wrong(t, api.ErrFit, 0, code(1, 2, nine, at(3)[0]))
		wrong(t, api.ErrFit, 0, code(1, 1, at(2)[0]))
	}
}

func TestH1DaysOfGuards(t *testing.T) {
	for _, a := range []int{1, 2, 64, 126, 127} {
		right(t, code(1, 2, weekTo(a, 2), nine))
	}
	for _, a := range append([]int{0, -1, 128, 129, 255, 256 + 1}, far...) {
		wrongIns(t, api.ErrRange, weekTo(a, 2))
	}
	last := api.MaxDays - 1
	for _, c := range [][2]int{{0, 0}, {0, 1}, {0, last}, {last, last}, {last - 1, last}, {5, 5}} {
		right(t, code(1, 2, datesTo(c[0], c[1], 2), nine))
	}
	for _, c := range [][2]int{{-1, 0}, {-1, -1}, {-5, last}, {0, last + 1}, {last + 1, last + 1}, {last, last + 1}, {5, 4}, {1, 0}, {last, 0}, {0, -1}} {
		wrongIns(t, api.ErrRange, datesTo(c[0], c[1], 2))
	}
	for _, a := range far {
		for _, b := range far {
			wrongIns(t, api.ErrRange, datesTo(a, b, 2))
		}
		wrongIns(t, api.ErrRange, datesTo(a, 5, 2))
		wrongIns(t, api.ErrRange, datesTo(5, a, 2))
	}
}

func TestH1Calls(t *testing.T) {
	right(t, code(1, 2, call(1)), fine)
	right(t, fine, code(1, 2, call(0)))
	right(t, fine, code(1, 2, call(2)), fine)
	for _, a := range append([]int{-1, 4, 5, 63, 64, 128}, far...) {
		wrongIns(t, api.ErrNone, call(a))
	}
	wrong(t, api.ErrNone, 0, code(1, 2, call(2)), fine)
	wrong(t, api.ErrNone, 1, fine, code(1, 2, call(2)))
	wrong(t, api.ErrNone, 0, code(1, 2, call(-1)), fine)
	wrong(t, api.ErrNone, 0, code(1, 2, call(1)))
}

func TestH1FieldsThatAKindHasNot(t *testing.T) {
	none := []api.Span{{A: 9, B: 5}, {A: -1, B: math.MaxInt}}
	right(t, fine, code(3, 9,
		api.Ins{Op: api.ISpans, A: -1, B: math.MinInt, To: -5},
		api.Ins{Op: api.ICall, A: 0, B: 7, To: math.MaxInt, Spans: none},
		api.Ins{Op: api.IWeek, A: 1, B: -1, To: 4, Spans: none},
		api.Ins{Op: api.ISpans, A: 5000, To: 1, Spans: nine.Spans},
		api.Ins{Op: api.IUnion, A: 4, B: -4, To: -4, Spans: none},
		api.Ins{Op: api.IDiff, A: math.MaxInt, B: 1, To: 99, Spans: none},
		api.Ins{Op: api.IShift, A: 1, B: 5000, To: -9, Spans: none},
		api.Ins{Op: api.IShift, A: -1, B: -1, To: 9000, Spans: none}))
	right(t, code(2, 5,
		api.Ins{Op: api.IDates, A: 0, B: 5, To: 2, Spans: none}, nine, api.Ins{Op: api.ISpans, A: 3, To: 3},
		api.Ins{Op: api.IBoth, A: 2000, B: -2000, To: 1, Spans: none}, by(1)))
}

// TestH1TheOrderOfErrors lays what is wrong in several ways side by side.
func TestH1TheOrderOfErrors(t *testing.T) {
	many, much, kind, form, reach := code(1, 1), code(0, 1, nine), code(1, 1, api.Ins{}), code(1, 1, spansOf(api.Span{})), code(1, 2, nine, by(0))
	to, none, fit := code(1, 2, weekTo(1, 1), nine), code(1, 1, call(99)), code(1, 2, nine)
	for _, c := range []struct {
		err  api.Errno
		code api.Code
	}{{api.ErrMany, many}, {api.ErrMuch, much}, {api.ErrKind, kind}, {api.ErrForm, form}, {api.ErrRange, reach}, {api.ErrFit, to}, {api.ErrNone, none}} {
		// Rule by rule, whichever error comes first elsewhere.
		for _, other := range []api.Code{many, much, kind, form, reach, to, none} {
			wrong(t, c.err, 0, c.code, other)
			wrong(t, c.err, 1, fine, c.code, other, fine)
		}
		// What rules do together is looked at behind all of them.
		wrong(t, c.err, 1, fit, c.code)
		wrong(t, c.err, 1, code(1, 1, call(0)), c.code)
		wrong(t, c.err, 2, code(1, 1, call(1)), code(1, 1, call(0)), c.code)
	}
	// Instruction by instruction.
	bad := []struct {
		err api.Errno
		ins api.Ins
	}{{api.ErrKind, api.Ins{}}, {api.ErrForm, spansOf(api.Span{})}, {api.ErrRange, by(0)}, {api.ErrFit, weekTo(1, 0)}, {api.ErrFit, datesTo(0, 0, 9)}, {api.ErrNone, call(-1)}}
	for _, a := range bad {
		for _, b := range bad {
			wrong(t, a.err, 1, fine, code(1, 3, nine, a.ins, b.ins))
		}
	}
	// Then a rule's cycle, and its stack, ahead of those of the next one.
	self := func(rule int) api.Code { return code(1, 1, call(rule), nine) }
	wrong(t, api.ErrCycle, 0, self(0), fit)
	wrong(t, api.ErrFit, 0, fit, self(1))
	wrong(t, api.ErrCycle, 1, fine, self(1), fit)
	wrong(t, api.ErrFit, 1, fine, fit, self(2))
}

func TestH1Cycles(t *testing.T) {
	caller := func(l ...int) api.Code {
		c := code(len(l), 0)
		for _, rule := range l {
			c.Ins = append(c.Ins, call(rule))
		}
		c.Ins = append(c.Ins, repeated(len(l)-1, union)...)
		// Whatever it says: no number is as told, if it needs itself.
		c.Steps = len(c.Ins)
		return c
	}
	wrong(t, api.ErrCycle, 0, caller(0))
	wrong(t, api.ErrCycle, 0, caller(1), caller(0))
	wrong(t, api.ErrCycle, 0, caller(1), caller(2), caller(0))
	wrong(t, api.ErrCycle, 0, caller(2), caller(0), caller(1))
	wrong(t, api.ErrCycle, 0, caller(2), fine, caller(1, 0))
	wrong(t, api.ErrCycle, 1, fine, caller(0, 2), caller(0, 1))
	wrong(t, api.ErrCycle, 2, fine, fine, caller(0, 1, 2, 0))
	// One that only calls those that call themselves does not; what it says is held against what they say.
	wrong(t, api.ErrCycle, 1, code(1, 2, call(1)), caller(1))
	wrong(t, api.ErrFit, 0, code(1, 3, call(1)), caller(1))
	wrong(t, api.ErrCycle, 1, code(1, 2, call(2)), caller(2), caller(1))
	// A call that no day comes to is one, too.
	wrong(t, api.ErrCycle, 0, code(1, 3, datesTo(0, 0, 3), datesTo(5, 5, 3), call(0)))
	// The same rule in two ways is none.
	right(t, code(2, 8, call(1), call(2), union), code(1, 2, call(3)), code(1, 3, call(3), by(1)), fine)
}

func TestH1CyclesOfMaxRules(t *testing.T) {
	ring := make([]api.Code, api.MaxRules)
	for i := range ring {
		ring[i] = code(1, api.MaxRules-i, call((i+1)%api.MaxRules))
	}
	wrong(t, api.ErrCycle, 0, ring...)
	ring[api.MaxRules-1] = fine
	right(t, ring...)
	ring[api.MaxRules-1] = code(1, 1, call(20))
	wrong(t, api.ErrCycle, 20, ring...)
	back := make([]api.Code, api.MaxRules)
	for i := range back {
		back[i] = code(1, i+1, call((i+api.MaxRules-1)%api.MaxRules))
	}
	wrong(t, api.ErrFit, 0, append([]api.Code{code(1, 2, nine)}, back[1:]...)...)
	right(t, append([]api.Code{fine}, back[1:]...)...)
	back[0].Steps = api.MaxRules
	wrong(t, api.ErrCycle, 0, back...)
	// Rules that each call the next one twice: more ways than can be gone one by one.
	twice := make([]api.Code, api.MaxRules)
	for i := range twice {
		twice[i] = code(2, 4, call((i+1)%api.MaxRules), call((i+1)%api.MaxRules), union)
	}
	twice[api.MaxRules-1] = fine
	wrong(t, api.ErrFit, 0, twice...)
	twice[api.MaxRules-1] = code(2, 4, call(api.MaxRules-2))
	wrong(t, api.ErrFit, 0, twice...)
	twice[api.MaxRules-1] = code(2, 4, call(0))
	wrong(t, api.ErrCycle, 0, twice...)
}

func TestH2EachKind(t *testing.T) {
	for _, op := range []api.Ins{union, diff, both} {
		right(t, code(2, 3, nine, nine, op))
		right(t, code(2, 5, nine, nine, op, nine, op))
		right(t, code(3, 5, nine, nine, nine, op, op))
		// More than lies there.
		wrong(t, api.ErrFit, 0, code(1, 1, op))
		wrong(t, api.ErrFit, 0, code(1, 2, nine, op))
		wrong(t, api.ErrFit, 0, code(2, 4, nine, nine, op, op))
		wrong(t, api.ErrFit, 0, code(1, 3, nine, op, nine))
		wrong(t, api.ErrFit, 0, code(1, 2, op, nine))
		wrong(t, api.ErrFit, 0, code(1, 3, op, nine, nine))
	}
	right(t, code(1, 3, nine, by(1), by(-1)))
	right(t, code(2, 4, nine, nine, by(1), union))
	wrong(t, api.ErrFit, 0, code(1, 1, by(5)))
	wrong(t, api.ErrFit, 0, code(1, 2, by(5), nine))
	right(t, fine, code(2, 5, call(0), call(0), union))
	wrong(t, api.ErrFit, 1, fine, code(1, 3, call(0), union))
}

func TestH2OneMaskBehindTheLast(t *testing.T) {
	wrong(t, api.ErrFit, 0, code(2, 2, nine, nine))
	wrong(t, api.ErrFit, 0, code(3, 4, nine, nine, nine, union))
	wrong(t, api.ErrFit, 1, fine, code(2, 4, call(0), call(0)))
	wrong(t, api.ErrFit, 0, code(2, 3, weekTo(1, 2), nine, nine))
	wrong(t, api.ErrFit, 0, code(2, 3, nine, weekTo(1, 3), nine))
	wrong(t, api.ErrFit, 0, code(2, 3, nine, nine, by(1)))
	// None at all: one guard behind the other, and one that leaves out too little.
	wrong(t, api.ErrFit, 0, code(1, 3, weekTo(1, 3), weekTo(1, 3), weekTo(1, 3)))
	wrong(t, api.ErrFit, 0, code(1, 2, weekTo(1, 2), weekTo(1, 2)))
}

func TestH2HeightsWhereWaysMeet(t *testing.T) {
	right(t, code(1, 3, weekTo(1, 3), datesTo(0, 9, 3), nine))
	right(t, code(2, 4, weekTo(1, 4), nine, nine, union))
	right(t, code(2, 4, weekTo(1, 2), nine, nine, union))
	// In the midst of what is one high, or two.
	right(t, code(2, 5, weekTo(1, 4), nine, nine, union, by(1)))
	wrong(t, api.ErrFit, 0, code(2, 5, weekTo(1, 3), nine, nine, union, by(1)))
	wrong(t, api.ErrFit, 0, code(2, 4, weekTo(1, 3), nine, nine, union))
	// The way round comes lower, or higher, behind the last one.
	wrong(t, api.ErrFit, 0, code(2, 3, nine, weekTo(1, 3), by(1)))
	wrong(t, api.ErrFit, 0, code(2, 4, nine, nine, weekTo(1, 4), union))
	wrong(t, api.ErrFit, 0, code(1, 3, weekTo(1, 3), weekTo(1, 3), by(1)))
	// Guards across each other, whose heights fit.
	right(t, code(2, 6, weekTo(1, 5), nine, datesTo(0, 9, 4), nine, union, by(1)))
	right(t, code(1, 4, weekTo(1, 3), datesTo(0, 9, 4), nine, by(1)))
	right(t, code(2, 7, nine, weekTo(1, 4), datesTo(0, 9, 5), nine, by(1), by(2), union))
	// Two guards to one place from different heights: one of them cannot fit, whichever is first.
	wrong(t, api.ErrFit, 0, code(2, 5, weekTo(1, 4), nine, weekTo(1, 4), nine, union))
	wrong(t, api.ErrFit, 0, code(2, 5, weekTo(1, 5), nine, weekTo(1, 5), nine, union))
	wrong(t, api.ErrFit, 0, code(2, 6, weekTo(1, 5), nine, weekTo(1, 5), nine, union, by(1)))
	wrong(t, api.ErrFit, 0, code(3, 7, nine, weekTo(1, 5), nine, weekTo(1, 5), nine, union, union))
}

func TestH2High(t *testing.T) {
	for _, c := range []struct {
		high int
		ins  []api.Ins
	}{
		{1, []api.Ins{nine}},
		{1, []api.Ins{nine, by(1)}},
		{1, []api.Ins{weekTo(1, 2), nine}},
		{2, []api.Ins{nine, nine, union}},
		{2, []api.Ins{nine, nine, union, nine, union}},
		{3, []api.Ins{nine, nine, nine, union, union, nine, both}},
		{3, []api.Ins{nine, nine, diff, nine, nine, union, union}},
		{2, []api.Ins{nine, weekTo(1, 3), nine, union}},
		{40, piled(40)},
	} {
		for _, off := range []int{0, -1, 1, 2} {
			if high := c.high + off; off == 0 {
				right(t, code(high, len(c.ins), c.ins...))
			} else if high > 0 {
				wrong(t, api.ErrFit, 0, code(high, len(c.ins), c.ins...))
				wrong(t, api.ErrFit, 1, fine, code(high, len(c.ins), c.ins...), code(1, 5, nine))
			}
		}
	}
}

func TestH2HighOfWhatIsCalled(t *testing.T) {
	three := code(3, 5, piled(3)...)
	for _, c := range []struct {
		high, steps int
		ins         []api.Ins
	}{
		{3, 6, []api.Ins{call(1)}},
		{3, 7, []api.Ins{call(1), by(1)}},
		{3, 7, []api.Ins{weekTo(1, 2), call(1)}},
		{3, 8, []api.Ins{call(1), nine, union}},
		{4, 8, []api.Ins{nine, call(1), union}},
		{4, 9, []api.Ins{nine, weekTo(1, 3), call(1), union}},
		{5, 10, []api.Ins{nine, nine, call(1), union, union}},
		{4, 13, []api.Ins{call(1), call(1), union}},
		{5, 20, []api.Ins{call(1), call(1), call(1), union, union}},
		{4, 20, []api.Ins{call(1), call(1), union, call(1), union}},
		{4, 14, []api.Ins{nine, nine, nine, nine, union, union, union, call(1), union}},
	} {
		right(t, code(c.high, c.steps, c.ins...), three)
		wrong(t, api.ErrFit, 0, code(c.high-1, c.steps, c.ins...), three)
		wrong(t, api.ErrFit, 0, code(c.high+1, c.steps, c.ins...), three)
	}
	// Upon so many that the call is just as high as may be.
	most := code(api.MaxHigh, 2*api.MaxHigh-1, piled(api.MaxHigh)...)
	right(t, code(api.MaxHigh, 2*api.MaxHigh, call(1)), most)
	wrong(t, api.ErrMuch, 0, code(api.MaxHigh+1, 2*api.MaxHigh+1, nine, call(1), union), most)
	wrong(t, api.ErrFit, 0, code(api.MaxHigh, 2*api.MaxHigh+2, nine, call(1), union), most)
}

func TestH2Steps(t *testing.T) {
	three := code(2, 3, nine, nine, union)
	for _, c := range []struct {
		steps int
		code  api.Code
	}{
		{1, code(1, 0, nine)},
		{2, code(1, 0, weekTo(1, 2), nine)},
		{4, code(2, 0, call(1))},
		{5, code(2, 0, weekTo(1, 2), call(1))},
		{9, code(3, 0, call(1), call(1), union)},
		{5, code(2, 0, call(2))},
		{10, code(3, 0, call(1), call(2), union)},
		{16, code(4, 0, call(2), call(2), call(1), union, union)},
	} {
		for _, steps := range []int{c.steps, c.steps - 1, c.steps + 1, c.steps + 3} {
			c.code.Steps = steps
			if steps == c.steps {
				right(t, c.code, three, code(2, 4, call(1)))
			} else if steps > 0 {
				wrong(t, api.ErrFit, 0, c.code, three, code(2, 4, call(1)))
			}
		}
	}
}

func TestH2WhatIsCalledIsAskedForItself(t *testing.T) {
	// Rule 0 says what comes of what rule 1 says, and so it is rule 1 that is wrong.
	wrong(t, api.ErrFit, 1, code(5, 10, call(1)), code(5, 9, nine))
	wrong(t, api.ErrFit, 1, code(1, 9, call(1)), code(1, 8, nine))
	wrong(t, api.ErrFit, 1, code(2, 3, call(1)), code(2, 2, nine, nine))
	// And here it is rule 0, too.
	wrong(t, api.ErrFit, 0, code(1, 2, call(1)), code(1, 8, nine))
	wrong(t, api.ErrFit, 0, code(1, 9, call(1)), code(2, 8, nine))
}

func TestH1AndH2ByTheDocumentsWords(t *testing.T) {
	r := rand.New(rand.NewSource(11))
	told := map[api.Errno]int{}
	for range 4000 {
		l := anyCodes(r, 1+r.Intn(5))
		right(t, l...)
		c := &l[r.Intn(len(l))]
		at := r.Intn(len(c.Ins))
		switch r.Intn(6) {
		case 0:
			c.High += 1 - 2*r.Intn(2)
		case 1:
			c.Steps += 1 - 2*r.Intn(2)
		case 2:
			c.Ins[at].To = at + 2 + r.Intn(len(c.Ins))
		case 3:
			c.Ins[at] = anyIns(r, []int{api.ISpans, api.IUnion, api.IShift}[r.Intn(3)], len(l))
		case 4:
			c.Ins[at] = anyIns(r, api.ICall, len(l))
		case 5:
			other := r.Intn(len(c.Ins))
			c.Ins[at].Op, c.Ins[other].Op = c.Ins[other].Op, c.Ins[at].Op
		}
		// Only what is left right instruction by instruction is for the plain words.
		if !allRight(l) {
			continue
		}
		want := plainTogether(l)
		if got := vm.Wrong(l); got != want {
			t.Fatalf("Wrong(%v) is %v, not %v", l, got, want)
		}
		told[want.Err]++
	}
	if told[api.OK] < 100 || told[api.ErrCycle] < 100 || told[api.ErrFit] < 500 {
		t.Errorf("there were %v", told)
	}
}

// allRight tells whether every instruction is right by itself.
func allRight(l []api.Code) bool {
	for _, c := range l {
		if c.High < 1 || c.Steps < 1 {
			return false
		}
		for at, i := range c.Ins {
			guard := i.Op == api.IWeek || i.Op == api.IDates
			switch {
			case guard && (i.To < at+2 || i.To > len(c.Ins)),
				i.Op == api.IWeek && (i.A < 1 || i.A > 127),
				i.Op == api.IDates && (i.A < 0 || i.A > i.B),
				i.Op == api.IShift && i.A == 0,
				i.Op == api.ICall && (i.A < 0 || i.A >= len(l)),
				i.Op == api.ISpans && slices.ContainsFunc(i.Spans, func(s api.Span) bool { return s.A >= s.B }):
				return false
			}
		}
	}
	return true
}

func TestH1CodeIsOnlyRead(t *testing.T) {
	r := rand.New(rand.NewSource(12))
	for range 300 {
		l := roomy(anyCodes(r, 1+r.Intn(5)))
		before := spread(l)
		right(t, l...)
		vm.Run(l, r.Intn(len(l)), someDay)
		if !reflect.DeepEqual(before, spread(l)) {
			t.Fatalf("%v has become %v", before, spread(l))
		}
	}
}
