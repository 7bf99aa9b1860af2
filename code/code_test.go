package code_test

import (
	"fmt"
	"math/rand"
	"reflect"
	"slices"
	"strings"
	"testing"

	"slotrules/api"
	compiler "slotrules/code"
	"slotrules/mean"
)

// someDay is November 15, 2026, a Sunday.
const someDay = 9815

var (
	nothing = spansOf()
	whole   = spansOf(api.Span{A: 0, B: api.Minutes})
	nine    = spansOf(api.Span{A: 540, B: 600})
)

// same tells whether codes are the same; nil and no spans are.
func same(a, b api.Code) bool {
	return a.High == b.High && a.Steps == b.Steps && slices.EqualFunc(a.Ins, b.Ins, func(x, y api.Ins) bool {
		return x.Op == y.Op && x.A == y.A && x.B == y.B && x.To == y.To && slices.Equal(x.Spans, y.Spans)
	})
}

// short tells a value, of a long one its beginning.
func short(v any) string {
	return fmt.Sprintf("%.400s", fmt.Sprint(v))
}

// compiled asks for code, and for no fault.
func compiled(t *testing.T, l []api.Rule) []api.Code {
	t.Helper()
	got, fault := compiler.Compile(l)
	if fault != (api.Fault{}) || len(got) != len(l) {
		t.Fatalf("Compile(%s) is %d codes, %v", short(l), len(got), fault)
	}
	return got
}

// compiles asks for each rule's code.
func compiles(t *testing.T, l []api.Rule, want ...api.Code) {
	t.Helper()
	if len(l) != len(want) {
		t.Fatalf("%d rules, and %d codes", len(l), len(want))
	}
	for i, got := range compiled(t, l) {
		if !same(got, want[i]) {
			t.Errorf("Compile(%s) has %s of rule %d, not %s", short(l), short(got), i, short(want[i]))
		}
	}
}

func compilesText(t *testing.T, s string, want ...api.Code) {
	t.Helper()
	compiles(t, text(t, s), want...)
}

// wrong asks for a fault, and for no code.
func wrong(t *testing.T, l []api.Rule, err api.Errno, at int) {
	t.Helper()
	got, fault := compiler.Compile(l)
	if want := (api.Fault{Err: err, At: at}); fault != want || len(got) != 0 {
		t.Errorf("Compile(%s) is %d codes, %v, not %v", short(l), len(got), fault, want)
	}
}

func TestG1NoRules(t *testing.T) {
	for _, l := range [][]api.Rule{nil, {}, make([]api.Rule, 0, 3)} {
		compiles(t, l)
	}
}

func TestG1EachKindAlone(t *testing.T) {
	hour := span(540, 600)
	for _, c := range []struct {
		e    api.Expr
		want api.Code
	}{
		{never(), code(1, 1, nothing)},
		{always(), code(1, 1, whole)},
		{hour, code(1, 1, nine)},
		{span(0, api.Minutes), code(1, 1, whole)},
		{week(64, hour), code(1, 2, weekTo(64, 2), nine)},
		{week(127, never()), code(1, 2, weekTo(127, 2), nothing)},
		{dates(5, 9, hour), code(1, 2, datesTo(5, 9, 2), nine)},
		{dates(0, 0, always()), code(1, 2, datesTo(0, 0, 2), whole)},
		{dates(0, api.MaxDays-1, hour), code(1, 2, datesTo(0, api.MaxDays-1, 2), nine)},
		{pair(api.EUnion, span(480, 540), hour), code(1, 1, spansOf(api.Span{A: 480, B: 600}))},
		{pair(api.EDiff, span(480, 600), hour), code(1, 1, spansOf(api.Span{A: 480, B: 540}))},
		{pair(api.EBoth, span(480, 550), hour), code(1, 1, spansOf(api.Span{A: 540, B: 550}))},
		{shift(60, span(480, 540)), code(1, 1, nine)},
		{shift(-60, span(600, 660)), code(1, 1, nine)},
	} {
		compiles(t, alone(c.e), c.want)
	}
	compiles(t, []api.Rule{rule("a", called("b")), rule("b", hour)}, code(1, 2, call(1)), code(1, 1, nine))
}

func TestG1WithoutDaysAndNamesIsOneInstruction(t *testing.T) {
	for _, c := range []struct {
		s    string
		want []api.Span
	}{
		{"09:00-10:00 + 10:00-11:00", []api.Span{{A: 540, B: 660}}},
		{"09:00-10:00 + 10:01-11:00", []api.Span{{A: 540, B: 600}, {A: 601, B: 660}}},
		{"13:00-17:00 + 09:00-12:00", []api.Span{{A: 540, B: 720}, {A: 780, B: 1020}}},
		{"never", nil},
		{"never shift 5 + never & always", nil},
		{"09:00-10:00 - 08:00-11:00", nil},
		{"09:00-10:00 & 10:00-11:00", nil},
		{"23:00-24:00 shift 60", nil},
		{"always", []api.Span{{A: 0, B: 1440}}},
		{"00:00-12:00 + 12:00-24:00", []api.Span{{A: 0, B: 1440}}},
		{"always - never", []api.Span{{A: 0, B: 1440}}},
		{"always shift 1 + 00:00-00:01", []api.Span{{A: 0, B: 1440}}},
		{"always - 12:00-13:00", []api.Span{{A: 0, B: 720}, {A: 780, B: 1440}}},
		{"always shift 5 shift -10", []api.Span{{A: 0, B: 1430}}},
		{"08:00-12:00 - (09:00-10:00 - 09:30-09:45)", []api.Span{{A: 480, B: 540}, {A: 570, B: 585}, {A: 600, B: 720}}},
		{"((always - 10:00-11:00) shift 5) & 09:00-24:00", []api.Span{{A: 540, B: 605}, {A: 665, B: 1440}}},
	} {
		compilesText(t, "rule a = "+c.s+";", code(1, 1, spansOf(c.want...)))
	}
}

func TestG1DaysWithinTheOthers(t *testing.T) {
	compilesText(t, "rule a = (weekly mon: 09:00-10:00) shift 5;", code(1, 3, weekTo(1, 2), nine, by(5)))
	compilesText(t, "rule a = (dates 2026-11-15: 09:00-10:00) shift -5;", code(1, 3, datesTo(someDay, someDay, 2), nine, by(-5)))
	// What is shifted ahead of the guard's end belongs to the kid.
	compilesText(t, "rule a = weekly mon: 08:00-09:00 shift 60;", code(1, 2, weekTo(1, 2), nine))
	for _, c := range []struct {
		sign string
		op   int
	}{{"+", api.IUnion}, {"-", api.IDiff}, {"&", api.IBoth}} {
		compilesText(t, "rule a = always "+c.sign+" weekly sun: 09:00-10:00;", code(2, 4, whole, weekTo(64, 3), nine, sign(c.op)))
		compilesText(t, "rule a = weekly sun: 09:00-10:00 "+c.sign+" always;", code(2, 4, weekTo(64, 2), nine, whole, sign(c.op)))
		compilesText(t, "rule a = weekly sun: ((08:00-10:00 - 08:00-09:00) "+c.sign+" b); rule b = always;",
			code(2, 5, weekTo(64, 4), nine, call(1), sign(c.op)), code(1, 1, whole))
	}
}

func TestG1GuardsWithinEachOther(t *testing.T) {
	compilesText(t, "rule a = weekly mon: dates 2026-11-15..2026-11-16: 09:00-10:00;",
		code(1, 3, weekTo(1, 3), datesTo(someDay, someDay+1, 3), nine))
	compilesText(t, "rule a = dates 2026-11-15: weekly mon,tue: weekly sun: 09:00-10:00;",
		code(1, 4, datesTo(someDay, someDay, 4), weekTo(3, 4), weekTo(64, 4), nine))
	compilesText(t, "rule a = weekly mon: (weekly tue: always - weekly wed: 09:00-10:00) - dates 2026-11-15: never;",
		code(2, 9, weekTo(1, 6), weekTo(2, 3), whole, weekTo(4, 5), nine, sign(api.IDiff), datesTo(someDay, someDay, 8), nothing, sign(api.IDiff)))
	compilesText(t, "rule a = always - (always - (always - weekly mon: 09:00-10:00));",
		code(4, 8, whole, whole, whole, weekTo(1, 5), nine, sign(api.IDiff), sign(api.IDiff), sign(api.IDiff)))
	compilesText(t, "rule a = weekly mon: ((weekly tue: always) shift 5);",
		code(1, 4, weekTo(1, 4), weekTo(2, 3), whole, by(5)))
}

func TestG1Names(t *testing.T) {
	// Ahead, behind, and by way of another one.
	compilesText(t, "rule a = 09:00-10:00; rule b = a;", code(1, 1, nine), code(1, 2, call(0)))
	compilesText(t, "rule b = a; rule a = 09:00-10:00;", code(1, 2, call(1)), code(1, 1, nine))
	compilesText(t, "rule c = b; rule a = 09:00-10:00; rule b = a;", code(1, 3, call(2)), code(1, 1, nine), code(1, 2, call(1)))
	// One several times, in one rule and in more.
	compilesText(t, "rule a = b + b & b; rule b = 09:00-10:00; rule c = b shift 5 - b;",
		code(3, 8, call(1), call(1), call(1), sign(api.IBoth), sign(api.IUnion)), code(1, 1, nine), code(2, 6, call(1), by(5), call(1), sign(api.IDiff)))
	// A rule that means the same on all days is called all the same.
	compilesText(t, "rule a = weekly mon: b; rule b = dates 2026-11-15: c; rule c = never;",
		code(1, 5, weekTo(1, 2), call(1)), code(1, 3, datesTo(someDay, someDay, 2), call(2)), code(1, 1, nothing))
	// What has no name in it is one instruction beside what has.
	compilesText(t, "rule a = (always - 00:00-09:00) & 00:00-10:00 + b; rule b = always;",
		code(2, 4, nine, call(1), sign(api.IUnion)), code(1, 1, whole))
	l := []api.Rule{rule("ab", called("a")), rule("a", never()), rule("a_", called("b")), rule("b", always()), rule("aa", called("ab"))}
	compiles(t, l, code(1, 2, call(1)), code(1, 1, nothing), code(1, 2, call(3)), code(1, 1, whole), code(1, 3, call(0)))
}

func TestG1FieldsThatAKindHasNot(t *testing.T) {
	compiles(t, []api.Rule{
		rule("a", api.Expr{Kind: api.ENever, A: 1, B: 5, Name: "b"}),
		rule("b", api.Expr{Kind: api.EAlways, A: 1, B: 5, Name: "b"}),
		rule("c", api.Expr{Kind: api.ESpan, A: 540, B: 600, Name: "c"}),
		rule("d", api.Expr{Kind: api.EWeek, A: 64, B: -5, Name: "d", Kids: []api.Expr{always()}}),
		rule("e", api.Expr{Kind: api.EDates, A: 1, B: 2, Name: "?", Kids: []api.Expr{always()}}),
		rule("f", api.Expr{Kind: api.EUnion, A: -1, B: 5, Name: "f", Kids: []api.Expr{never(), called("b")}}),
		rule("g", api.Expr{Kind: api.EShift, A: 1, B: 5, Name: "g", Kids: []api.Expr{called("b")}}),
		rule("h", api.Expr{Kind: api.EName, A: 1, B: 5, Name: "c"}),
		rule("i", api.Expr{Kind: api.EDiff, A: -1, B: 5, Name: "i", Kids: []api.Expr{never(), called("b")}}),
		rule("j", api.Expr{Kind: api.EBoth, A: -1, B: 5, Name: "j", Kids: []api.Expr{never(), called("b")}}),
	},
		code(1, 1, nothing), code(1, 1, whole), code(1, 1, nine), code(1, 2, weekTo(64, 2), whole), code(1, 2, datesTo(1, 2, 2), whole),
		code(2, 4, nothing, call(1), sign(api.IUnion)), code(1, 3, call(1), by(1)), code(1, 2, call(2)),
		code(2, 4, nothing, call(1), sign(api.IDiff)), code(2, 4, nothing, call(1), sign(api.IBoth)))
}

func TestG1JustMaxRules(t *testing.T) {
	l := make([]api.Rule, api.MaxRules)
	want := make([]api.Code, api.MaxRules)
	for i := range l {
		l[i] = rule(nameOf(i), called(nameOf(i+1)))
		want[i] = code(1, api.MaxRules-i, call(i+1))
	}
	l[api.MaxRules-1].Expr = span(540, 600)
	want[api.MaxRules-1] = code(1, 1, nine)
	compiles(t, l, want...)
	slices.Reverse(l)
	slices.Reverse(want)
	for i := range want[1:] {
		want[i+1].Ins = []api.Ins{call(i)}
	}
	compiles(t, l, want...)
	wrong(t, append(slices.Clone(l), rule("more", never())), api.ErrMany, 0)
}

func TestG1JustMaxDeep(t *testing.T) {
	n := api.MaxDeep - 1
	compiles(t, alone(shifts(n, 1, span(540-n, 600-n))), code(1, 1, nine))
	ins := append([]api.Ins{weekTo(1, 2), nine}, repeated(n-1, by(1))...)
	compiles(t, alone(shifts(n-1, 1, week(1, span(540, 600)))), code(1, n+1, ins...))
	guards := append(repeated(n, weekTo(3, n+1)), nine)
	e := span(540, 600)
	for range n {
		e = week(3, e)
	}
	compiles(t, alone(e), code(1, n+1, guards...))
	wrong(t, alone(week(3, e)), api.ErrMuch, 0)
	// The pile's spans lie there until its end.
	var pile []api.Ins
	for i := n; i > 0; i-- {
		pile = append(pile, spansOf(api.Span{A: i, B: i + 1}))
	}
	pile = append(append(pile, call(1)), repeated(n, sign(api.IUnion))...)
	compiles(t, []api.Rule{rule("a", piled(api.MaxDeep, called("b"))), rule("b", always())}, code(n+1, 2*n+2, pile...), code(1, 1, whole))
}

func TestG1JustMaxNodes(t *testing.T) {
	// 300 names and 299 unions, within one shift: as many instructions as expressions.
	l := []api.Rule{rule("a", shift(5, joined(300, called("b")))), rule("b", always())}
	got := compiled(t, l)
	if c := got[0]; len(c.Ins) != api.MaxNodes || c.Steps != api.MaxNodes+300 || !slices.EqualFunc(c.Ins, written(l, l[0].Expr, 0), sameIns) {
		t.Errorf("the code of %d expressions is %d instructions, %d high, in %d steps", api.MaxNodes, len(c.Ins), c.High, c.Steps)
	}
	compiles(t, alone(shift(60, joined(300, span(480, 540)))), code(1, 1, nine))
	wrong(t, alone(shift(5, shift(5, joined(300, always())))), api.ErrMuch, 0)
}

func sameIns(a, b api.Ins) bool { return same(code(0, 0, a), code(0, 0, b)) }

func TestG2HighAndStepsOfWhatIsCalled(t *testing.T) {
	compilesText(t, "rule a = b - pause; rule b = weekly mon: 09:00-10:00; rule pause = never;",
		code(2, 6, call(1), call(2), sign(api.IDiff)), code(1, 2, weekTo(1, 2), nine), code(1, 1, nothing))
	// b is two high: behind what lies there already it is three high.
	b, c := "rule b = c - c;", "rule c = always;"
	two, one := code(2, 5, call(2), call(2), sign(api.IDiff)), code(1, 1, whole)
	compilesText(t, "rule a = b - c;"+b+c, code(2, 9, call(1), call(2), sign(api.IDiff)), two, one)
	compilesText(t, "rule a = c - b;"+b+c, code(3, 9, call(2), call(1), sign(api.IDiff)), two, one)
	compilesText(t, "rule a = never - b;"+b+c, code(3, 8, nothing, call(1), sign(api.IDiff)), two, one)
	compilesText(t, "rule a = weekly mon: b;"+b+c, code(2, 7, weekTo(1, 2), call(1)), two, one)
	compilesText(t, "rule a = b shift 5;"+b+c, code(2, 7, call(1), by(5)), two, one)
	compilesText(t, "rule a = c + c + c + c;"+b+c, code(2, 11, call(2), call(2), sign(api.IUnion), call(2), sign(api.IUnion), call(2), sign(api.IUnion)), two, one)
	compilesText(t, "rule a = c & (c & (c & c));"+b+c, code(4, 11, call(2), call(2), call(2), call(2), sign(api.IBoth), sign(api.IBoth), sign(api.IBoth)), two, one)
	compilesText(t, "rule a = c & (c & b) + c;"+b+c, code(4, 15, call(2), call(2), call(1), sign(api.IBoth), sign(api.IBoth), call(2), sign(api.IUnion)), two, one)
}

// highRules is rules, the first of which is so high: piles upon piles, to the last of one high.
func highRules(high int) []api.Rule {
	var l []api.Rule
	for high > 1 {
		deep := min(high, api.MaxDeep)
		l = append(l, rule(nameOf(len(l)), piled(deep, called(nameOf(len(l)+1)))))
		high -= deep - 1
	}
	return append(l, rule(nameOf(len(l)), always()))
}

// maxSteps is rules, the last of which takes just MaxSteps: n names and their unions take n * (s + 2) - 1 steps, if each named one takes s.
func maxSteps() []api.Rule {
	return []api.Rule{rule("two", week(1, always())), rule("more", joined(44, called("two"))), rule("most", joined(113, called("more")))}
}

func TestG2JustMaxHigh(t *testing.T) {
	for _, high := range []int{1, 2, 39, 40, 41, 78, 79, 80, api.MaxHigh - 1, api.MaxHigh} {
		l := highRules(high)
		if got := compiled(t, l)[0].High; got != high {
			t.Errorf("%d rules are %d high, not %d", len(l), got, high)
		}
		slices.Reverse(l)
		if got := compiled(t, l)[len(l)-1].High; got != high {
			t.Errorf("%d rules are %d high, not %d", len(l), got, high)
		}
	}
	for _, high := range []int{api.MaxHigh + 1, api.MaxHigh + 2, 117, 118, 119, 200} {
		l := highRules(high)
		wrong(t, l, api.ErrMuch, 0)
		wrong(t, append(maxSteps(), l...), api.ErrMuch, 3)
	}
}

func TestG2JustMaxSteps(t *testing.T) {
	l := maxSteps()
	got := compiled(t, l)
	if got[0].Steps != 2 || got[1].Steps != 175 || got[2].Steps != api.MaxSteps {
		t.Errorf("steps are %d, %d, %d", got[0].Steps, got[1].Steps, got[2].Steps)
	}
	l[2].Expr = shift(1, l[2].Expr)
	wrong(t, l, api.ErrMuch, 2)
	l[2].Expr = week(1, maxSteps()[2].Expr)
	wrong(t, l, api.ErrMuch, 2)
	wrong(t, append(maxSteps(), rule("z", called("most"))), api.ErrMuch, 3)
	wrong(t, append([]api.Rule{rule("z", called("most"))}, maxSteps()...), api.ErrMuch, 0)
}

func TestG2RulesThatSpeakTwiceOfTheNextOne(t *testing.T) {
	// A rule of s steps makes one of 2 * s + 3: of 13 rules the first one takes 16381, of 14 too many.
	for _, n := range []int{1, 2, 3, 13} {
		l := twice(n)
		c := compiled(t, l)[0]
		if steps := 1<<(n+1) - 3; c.High != n || c.Steps != steps {
			t.Errorf("%d rules that speak twice of the next one: %d high, %d steps, not %d", n, c.High, c.Steps, steps)
		}
	}
	for _, n := range []int{14, 15, 30, api.MaxRules} {
		l := twice(n)
		wrong(t, l, api.ErrMuch, 0)
		slices.Reverse(l)
		wrong(t, l, api.ErrMuch, 13)
	}
}

func TestG2StepsThatNoNumberHolds(t *testing.T) {
	for times := 20; times <= api.MaxDeep; times++ {
		l := make([]api.Rule, api.MaxRules)
		for i := range l {
			e := called(nameOf(i + 1))
			// From the left, so that it is the steps alone that are too many.
			for range times - 1 {
				e = pair(api.EUnion, e, called(nameOf(i+1)))
			}
			l[i] = rule(nameOf(i), e)
		}
		l[api.MaxRules-1].Expr = always()
		wrong(t, l, api.ErrMuch, 0)
		slices.Reverse(l)
		wrong(t, l, api.ErrMuch, 3)
	}
}

// twice is so many rules: each speaks twice of the next one.
func twice(n int) []api.Rule {
	l := make([]api.Rule, n)
	for i := range l {
		l[i] = rule(nameOf(i), joined(2, called(nameOf(i+1))))
	}
	l[n-1].Expr = always()
	return l
}

func TestG2TheLeastNumberOfThoseThatAreTooMuch(t *testing.T) {
	good := []api.Rule{rule("good", never()), rule("fine", called("good"))}
	high := highRules(api.MaxHigh + 1)
	most := append(maxSteps(), rule("over", called("most")))
	caller := rule("caller", called("over"))
	second := rule("second", week(1, pair(api.EDiff, called("good"), called("caller"))))
	// Too much only by way of another one, that stands behind, or ahead.
	wrong(t, slices.Concat(good, most, []api.Rule{caller, second}), api.ErrMuch, 5)
	wrong(t, slices.Concat(good, []api.Rule{caller, second}, most), api.ErrMuch, 2)
	wrong(t, slices.Concat(good, []api.Rule{second}, most, []api.Rule{caller}), api.ErrMuch, 2)
	wrong(t, slices.Concat(good, maxSteps(), []api.Rule{second, caller, most[3]}), api.ErrMuch, 5)
	// Of two kinds of it the least number, whichever that is.
	wrong(t, slices.Concat(good, high, most), api.ErrMuch, 2)
	wrong(t, slices.Concat(good, most, high), api.ErrMuch, 5)
	// One that is too high, by way of one that is called alone, stands behind, or ahead.
	by := []api.Rule{rule("by", called("r0"))}
	wrong(t, slices.Concat(good, by, high), api.ErrMuch, 2)
	wrong(t, slices.Concat(high[1:], by, high[:1]), api.ErrMuch, len(high)-1)
	wrong(t, slices.Concat(high[1:], high[:1], by), api.ErrMuch, len(high)-1)
}

func TestG2WrongRulesAheadOfTooMuch(t *testing.T) {
	l := highRules(api.MaxHigh + 1)
	wrong(t, append(l, rule("z", span(2, 1))), api.ErrRange, len(l))
	wrong(t, append(l, l[0]), api.ErrName, len(l))
	wrong(t, append(l, rule("z", called("nobody"))), api.ErrNone, len(l))
	wrong(t, append(l, rule("z", called("z"))), api.ErrCycle, len(l))
}

func TestG1WrongRules(t *testing.T) {
	good := rule("z", span(1, 2))
	for _, c := range []struct {
		e   api.Expr
		err api.Errno
	}{
		{api.Expr{}, api.ErrKind},
		{api.Expr{Kind: -1}, api.ErrKind},
		{api.Expr{Kind: 11}, api.ErrKind},
		{api.Expr{Kind: api.ENever, Kids: []api.Expr{never()}}, api.ErrMany},
		{api.Expr{Kind: api.EShift, A: 1}, api.ErrMany},
		{api.Expr{Kind: api.EWeek, A: 1}, api.ErrMany},
		{api.Expr{Kind: api.EDates}, api.ErrMany},
		{api.Expr{Kind: api.EUnion}, api.ErrMany},
		{api.Expr{Kind: api.EDiff, Kids: []api.Expr{never()}}, api.ErrMany},
		{api.Expr{Kind: api.EBoth, Kids: []api.Expr{never(), never(), never()}}, api.ErrMany},
		{span(-1, 2), api.ErrRange},
		{span(2, 2), api.ErrRange},
		{span(0, api.Minutes+1), api.ErrRange},
		{week(0, never()), api.ErrRange},
		{week(128, never()), api.ErrRange},
		{dates(-1, 0, never()), api.ErrRange},
		{dates(2, 1, never()), api.ErrRange},
		{dates(0, api.MaxDays, never()), api.ErrRange},
		{shift(0, never()), api.ErrRange},
		{shift(api.Minutes, never()), api.ErrRange},
		{shift(-api.Minutes, never()), api.ErrRange},
		{called(""), api.ErrName},
		{called("mon"), api.ErrName},
		{called(strings.Repeat("a", api.MaxWord+1)), api.ErrName},
		{shifts(api.MaxDeep, 1, never()), api.ErrMuch},
		{shifts(2, 1, joined(300, never())), api.ErrMuch},
		{called("nobody"), api.ErrNone},
		{week(1, dates(5, 6, called("nobody"))), api.ErrNone},
		{called("a"), api.ErrCycle},
		{pair(api.EBoth, never(), shift(5, called("a"))), api.ErrCycle},
	} {
		wrong(t, alone(c.e), c.err, 0)
		wrong(t, []api.Rule{good, rule("a", c.e)}, c.err, 1)
		wrong(t, []api.Rule{rule("a", c.e), good}, c.err, 0)
	}
	for _, name := range []string{"", "A", "1a", "rule", "always", "a-b", strings.Repeat("a", api.MaxWord+1)} {
		wrong(t, []api.Rule{good, rule(name, never())}, api.ErrName, 1)
	}
}

func TestG1WrongTogether(t *testing.T) {
	wrong(t, text(t, "rule a = never; rule b = never; rule a = never;"), api.ErrName, 2)
	wrong(t, text(t, "rule a = b; rule b = never; rule c = b + d; rule e = f;"), api.ErrNone, 2)
	wrong(t, text(t, "rule a = b; rule b = c; rule c = b;"), api.ErrCycle, 1)
	wrong(t, text(t, "rule a = b; rule b = c; rule c = a;"), api.ErrCycle, 0)
	// The first error in the order of the chapters, not of the rules.
	wrong(t, text(t, "rule a = a; rule b = c; rule b = never;"), api.ErrName, 2)
	wrong(t, text(t, "rule a = a; rule b = c;"), api.ErrNone, 1)
	wrong(t, make([]api.Rule, api.MaxRules+1), api.ErrMany, 0)
	// A list of kids that holds itself is too deep, not without an end.
	kids := make([]api.Expr, 1)
	kids[0] = api.Expr{Kind: api.EShift, A: 1, Kids: kids}
	wrong(t, alone(kids[0]), api.ErrMuch, 0)
}

func TestG1AndG2ByTheDocumentsWords(t *testing.T) {
	r := rand.New(rand.NewSource(7))
	long := 0
	for range 1500 {
		l := anyRules(r, 1+r.Intn(5))
		got := compiled(t, l)
		for i := range l {
			m := runAll(got, i)
			want := code(m.high, m.steps, written(l, l[i].Expr, 0)...)
			if !same(got[i], want) {
				t.Fatalf("Compile(%v) has %v of rule %d, not %v", l, got[i], i, want)
			}
			if len(want.Ins) > 3 {
				long++
			}
		}
	}
	if long < 500 {
		t.Errorf("only %d codes are long", long)
	}
}

func TestG1CodeIsWhatRulesMean(t *testing.T) {
	r := rand.New(rand.NewSource(8))
	for range 700 {
		l := anyRules(r, 1+r.Intn(5))
		got := compiled(t, l)
		for _, day := range []int{someDay - 1 + r.Intn(3), someDay - 4 + r.Intn(9), r.Intn(api.MaxDays)} {
			want, _ := mean.All(l, day)
			for i, c := range got {
				m := run(got, i, day)
				if len(m.stack) != 1 || m.stack[0] != want[i] {
					t.Fatalf("the code of rule %d of %v leaves %v on day %d, not %v", i, l, m.stack, day, want[i])
				}
				if m.high > c.High || m.steps > c.Steps {
					t.Fatalf("the code of rule %d of %v is %d high on day %d, in %d steps, not %d, %d", i, l, m.high, day, m.steps, c.High, c.Steps)
				}
			}
		}
	}
}

func TestG1RulesAreOnlyRead(t *testing.T) {
	r := rand.New(rand.NewSource(9))
	for range 200 {
		plain := anyRules(r, 1+r.Intn(5))
		l := roomy(plain)
		before := spread(l)
		got, fault := compiler.Compile(l)
		if !reflect.DeepEqual(before, spread(l)) {
			t.Fatalf("Compile changes %v", plain)
		}
		want := compiled(t, plain)
		if fault != (api.Fault{}) || !slices.EqualFunc(got, want, same) {
			t.Fatalf("Compile of %v hangs on spare room", plain)
		}
	}
}

func TestG1CodeIsNew(t *testing.T) {
	l := text(t, "rule a = 09:00-10:00 + c; rule b = 09:00-10:00; rule c = weekly mon: 09:00-10:00;")
	first, second := compiled(t, l), compiled(t, l)
	want := []api.Code{code(2, 5, nine, call(2), sign(api.IUnion)), code(1, 1, nine), code(1, 2, weekTo(1, 2), nine)}
	for i := range first {
		for j, ins := range first[i].Ins {
			// What lies behind a list is its caller's, too.
			_ = append(ins.Spans, api.Span{A: 1, B: 2})
			for k := range ins.Spans {
				ins.Spans[k] = api.Span{A: 3, B: 4}
			}
			first[i].Ins[j].To = 77
		}
		_ = append(first[i].Ins, by(9))
		if i+1 < len(first) && !same(first[i+1], want[i+1]) {
			t.Errorf("rule %d's code shares memory with that of rule %d", i+1, i)
		}
	}
	l[0].Expr.Kids[0].A, l[2].Name = 0, "z"
	if !slices.EqualFunc(second, want, same) {
		t.Errorf("what was answered has become %v", second)
	}
}
