package mean_test

import (
	"fmt"
	"math"
	"math/rand"
	"reflect"
	"slices"
	"strings"
	"testing"

	"slotrules/api"
	"slotrules/mean"
)

// someDay is November 15, 2026, a Sunday.
const someDay = 9815

type spans = []api.Span

var (
	none  spans
	whole = spans{{A: 0, B: api.Minutes}}
)

// bits is a mask of spans, minute by minute.
func bits(l spans) api.Mask {
	var m api.Mask
	for _, s := range l {
		for minute := s.A; minute < s.B; minute++ {
			m[minute/64] |= 1 << (minute % 64)
		}
	}
	return m
}

// means asks for what each rule means on a day.
func means(t *testing.T, l []api.Rule, day int, want ...spans) {
	t.Helper()
	got, fault := mean.All(l, day)
	if fault != (api.Fault{}) || len(got) != len(want) {
		t.Fatalf("All(%.300s, %d) is %d masks, %v, not %d", fmt.Sprint(l), day, len(got), fault, len(want))
	}
	for i := range want {
		if got[i] != bits(want[i]) {
			t.Errorf("All(%.300s, %d) has %x of rule %d, not %v", fmt.Sprint(l), day, got[i], i, want[i])
		}
	}
}

func meansText(t *testing.T, s string, day int, want ...spans) {
	t.Helper()
	means(t, text(t, s), day, want...)
}

// wrong asks for a fault, and for no masks.
func wrong(t *testing.T, l []api.Rule, day int, err api.Errno, at int) {
	t.Helper()
	got, fault := mean.All(l, day)
	if want := (api.Fault{Err: err, At: at}); fault != want || len(got) != 0 {
		t.Errorf("All(%.300s, %d) is %d masks, %v, not %v", fmt.Sprint(l), day, len(got), fault, want)
	}
}

// noDays are numbers of no days.
func noDays() []int {
	return []int{-1, api.MaxDays, -2, api.MaxDays + 1, -someDay, -api.MaxDays, 2 * api.MaxDays, math.MinInt, math.MaxInt}
}

// wrongEverywhere asks for a fault on every day, and on those that are none.
func wrongEverywhere(t *testing.T, l []api.Rule, err api.Errno, at int) {
	t.Helper()
	for _, day := range append(noDays(), 0, 1, someDay, api.MaxDays-1) {
		wrong(t, l, day, err, at)
	}
}

func TestF1NoRules(t *testing.T) {
	for _, l := range [][]api.Rule{nil, {}, make([]api.Rule, 0, 3)} {
		for _, day := range []int{0, someDay, api.MaxDays - 1} {
			means(t, l, day)
		}
		for _, day := range noDays() {
			wrong(t, l, day, api.ErrRange, 0)
		}
	}
}

func TestF1NeverAndAlways(t *testing.T) {
	for _, day := range []int{0, 1, someDay, api.MaxDays - 2, api.MaxDays - 1} {
		meansText(t, "rule a = never; rule b = always; rule c = never;", day, none, whole, none)
	}
}

func TestF1Span(t *testing.T) {
	for _, s := range []api.Span{
		{A: 0, B: 1}, {A: 0, B: 64}, {A: 0, B: 1439}, {A: 0, B: 1440}, {A: 1, B: 1440}, {A: 1439, B: 1440}, {A: 1376, B: 1440},
		{A: 540, B: 720}, {A: 63, B: 64}, {A: 63, B: 65}, {A: 64, B: 65}, {A: 1407, B: 1409}, {A: 1438, B: 1439}, {A: 719, B: 720},
	} {
		for _, day := range []int{0, someDay, api.MaxDays - 1} {
			means(t, alone(span(s.A, s.B)), day, spans{s})
		}
	}
	meansText(t, "rule a = 00:00-24:00; rule b = 23:59-24:00; rule c = 00:00-00:01;", someDay, whole, spans{{A: 1439, B: 1440}}, spans{{A: 0, B: 1}})
}

func TestF1Week(t *testing.T) {
	words := []string{"mon", "tue", "wed", "thu", "fri", "sat", "sun"}
	// Day 0 is a Saturday, and day someDay a Sunday.
	for _, first := range []struct{ day, week int }{{0, api.Saturday}, {someDay, api.Sunday}, {api.MaxDays - 9, api.Thursday}} {
		for i := range 9 {
			var want []spans
			var s string
			for w, word := range words {
				s += "rule on_" + word + " = weekly " + word + ": 09:00-10:00; "
				want = append(want, none)
				if w == (first.week+i)%7 {
					want[w] = spans{{A: 540, B: 600}}
				}
			}
			meansText(t, s, first.day+i, want...)
		}
	}
}

func TestF1WeekOfEverySet(t *testing.T) {
	for days := 1; days < 128; days++ {
		for day := someDay; day < someDay+7; day++ {
			want := none
			// someDay is a Sunday, so that the day behind it has bit 0.
			if days>>((day-someDay+6)%7)&1 == 1 {
				want = spans{{A: 5, B: 7}}
			}
			means(t, alone(week(days, span(5, 7))), day, want)
		}
	}
}

func TestF1Dates(t *testing.T) {
	kid, hour := span(600, 660), spans{{A: 600, B: 660}}
	for _, c := range []struct{ a, b int }{{someDay, someDay}, {someDay, someDay + 1}, {someDay - 2, someDay + 30}, {1, 2}, {1, api.MaxDays - 2}} {
		l := alone(dates(c.a, c.b, kid))
		for _, day := range []int{c.a, c.b, (c.a + c.b) / 2, min(c.a+1, c.b), max(c.b-1, c.a)} {
			means(t, l, day, hour)
		}
		for _, day := range []int{c.a - 1, c.b + 1, 0, api.MaxDays - 1} {
			means(t, l, day, none)
		}
	}
	means(t, alone(dates(0, 0, kid)), 0, hour)
	means(t, alone(dates(0, 0, kid)), 1, none)
	means(t, alone(dates(api.MaxDays-1, api.MaxDays-1, kid)), api.MaxDays-1, hour)
	means(t, alone(dates(api.MaxDays-1, api.MaxDays-1, kid)), api.MaxDays-2, none)
	for _, day := range []int{0, someDay, api.MaxDays - 1} {
		means(t, alone(dates(0, api.MaxDays-1, kid)), day, hour)
	}
}

func TestF1DatesAndWeekWithinEachOther(t *testing.T) {
	s := "rule a = weekly sun: dates 2026-11-15..2026-11-16: 09:00-10:00; rule b = dates 2026-11-15..2026-11-16: weekly mon,tue: always; rule c = always - weekly sun: always;"
	nine := spans{{A: 540, B: 600}}
	meansText(t, s, someDay-7, none, none, none)
	meansText(t, s, someDay-1, none, none, whole)
	meansText(t, s, someDay, nine, none, none)
	meansText(t, s, someDay+1, none, whole, whole)
	meansText(t, s, someDay+2, none, none, whole)
	meansText(t, s, someDay+7, none, none, none)
}

func TestF1Signs(t *testing.T) {
	a, b := span(540, 660), span(600, 720)
	for _, c := range []struct {
		e    api.Expr
		want spans
	}{
		{pair(api.EUnion, a, b), spans{{A: 540, B: 720}}},
		{pair(api.EUnion, b, a), spans{{A: 540, B: 720}}},
		{pair(api.EDiff, a, b), spans{{A: 540, B: 600}}},
		{pair(api.EDiff, b, a), spans{{A: 660, B: 720}}},
		{pair(api.EBoth, a, b), spans{{A: 600, B: 660}}},
		{pair(api.EBoth, b, a), spans{{A: 600, B: 660}}},
		{pair(api.EUnion, a, a), spans{{A: 540, B: 660}}},
		{pair(api.EDiff, a, a), none},
		{pair(api.EBoth, a, never()), none},
		{pair(api.EBoth, a, always()), spans{{A: 540, B: 660}}},
		{pair(api.EDiff, always(), a), spans{{A: 0, B: 540}, {A: 660, B: 1440}}},
		{pair(api.EDiff, never(), a), none},
		{pair(api.EUnion, never(), a), spans{{A: 540, B: 660}}},
		{pair(api.EUnion, a, always()), whole},
		{pair(api.EUnion, span(0, 1), span(1439, 1440)), spans{{A: 0, B: 1}, {A: 1439, B: 1440}}},
	} {
		means(t, alone(c.e), someDay, c.want)
	}
}

func TestF1SignsWithinEachOther(t *testing.T) {
	for _, c := range []struct {
		s    string
		want spans
	}{
		{"08:00-12:00 - 09:00-10:00 + 09:30-09:45", spans{{A: 480, B: 540}, {A: 570, B: 585}, {A: 600, B: 720}}},
		{"08:00-12:00 - (09:00-10:00 + 09:30-11:00)", spans{{A: 480, B: 540}, {A: 660, B: 720}}},
		{"08:00-12:00 - (09:00-10:00 - 09:30-11:00)", spans{{A: 480, B: 540}, {A: 570, B: 720}}},
		{"08:00-12:00 & (07:00-09:00 + 11:00-13:00)", spans{{A: 480, B: 540}, {A: 660, B: 720}}},
		{"08:00-12:00 & 07:00-09:00 + 11:00-13:00", spans{{A: 480, B: 540}, {A: 660, B: 780}}},
		{"(08:00-09:00 + 10:00-11:00) shift 30", spans{{A: 510, B: 570}, {A: 630, B: 690}}},
		{"always - 08:00-09:00 shift -30 & always shift 480", spans{{A: 0, B: 480}, {A: 510, B: 1440}}},
		{"weekly sun: (08:00-09:00 + dates 2026-11-16: 10:00-11:00)", spans{{A: 480, B: 540}}},
		{"weekly mon: 08:00-09:00 + 10:00-11:00", spans{{A: 600, B: 660}}},
		{"(weekly sun: 08:00-09:00) shift 60 - weekly mon: always", spans{{A: 540, B: 600}}},
	} {
		meansText(t, "rule a = "+c.s+";", someDay, c.want)
	}
}

func TestF1Shift(t *testing.T) {
	for _, c := range []struct {
		by   int
		kid  api.Expr
		want spans
	}{
		{1, span(0, 1), spans{{A: 1, B: 2}}},
		{-1, span(1, 2), spans{{A: 0, B: 1}}},
		{1, span(1439, 1440), none},
		{-1, span(0, 1), none},
		{1, always(), spans{{A: 1, B: 1440}}},
		{-1, always(), spans{{A: 0, B: 1439}}},
		{30, span(1380, 1440), spans{{A: 1410, B: 1440}}},
		{-30, span(0, 60), spans{{A: 0, B: 30}}},
		{60, span(1380, 1440), none},
		{-60, span(0, 60), none},
		{1439, always(), spans{{A: 1439, B: 1440}}},
		{-1439, always(), spans{{A: 0, B: 1}}},
		{1439, span(1, 1440), none},
		{-1439, span(0, 1439), none},
		{64, span(10, 70), spans{{A: 74, B: 134}}},
		{-64, span(74, 134), spans{{A: 10, B: 70}}},
		{5, never(), none},
		{-60, shift(60, span(1350, 1440)), spans{{A: 1350, B: 1380}}},
		{60, shift(-60, span(0, 90)), spans{{A: 60, B: 90}}},
		{60, shift(5, span(420, 570)), spans{{A: 485, B: 635}}},
	} {
		means(t, alone(shift(c.by, c.kid)), someDay, c.want)
	}
}

func TestF1Names(t *testing.T) {
	early, late := spans{{A: 480, B: 540}}, spans{{A: 540, B: 600}}
	// Ahead, behind, and by way of another one.
	meansText(t, "rule a = 08:00-09:00; rule b = a;", someDay, early, early)
	meansText(t, "rule b = a; rule a = 08:00-09:00;", someDay, early, early)
	meansText(t, "rule c = b shift 60; rule a = 08:00-09:00; rule b = a;", someDay, late, early, early)
	// One several times, in one rule and in more.
	meansText(t, "rule a = b + b; rule b = 08:00-09:00; rule c = b shift 60 + b - b; rule d = a & b & a;", someDay, early, early, late, early)
	meansText(t, "rule a = b - b shift 30; rule b = 08:00-09:00;", someDay, spans{{A: 480, B: 510}}, early)
	// What a rule means hangs on the day, not on where it stands.
	s := "rule a = weekly sun: b; rule b = weekly mon: 08:00-09:00; rule c = weekly mon: b;"
	meansText(t, s, someDay, none, none, none)
	meansText(t, s, someDay+1, none, early, early)
	// A rule that no day asks for is told all the same.
	meansText(t, "rule a = weekly mon: b; rule b = 08:00-09:00;", someDay, none, early)
}

func TestF1NamesAreHeldAgainstEachOtherByteByByte(t *testing.T) {
	l := []api.Rule{rule("ab", called("a")), rule("a", span(1, 2)), rule("a_", called("b")), rule("b", span(3, 4)), rule("aa", called("ab"))}
	means(t, l, 0, spans{{A: 1, B: 2}}, spans{{A: 1, B: 2}}, spans{{A: 3, B: 4}}, spans{{A: 3, B: 4}}, spans{{A: 1, B: 2}})
}

func TestF1FirstAndLastDay(t *testing.T) {
	s := "rule a = 09:00-10:00; rule b = weekly sat: always; rule c = weekly fri: always; rule d = dates 2000-01-01: a; rule e = dates 2399-12-31: a;"
	nine := spans{{A: 540, B: 600}}
	meansText(t, s, 0, nine, whole, none, nine, none)
	meansText(t, s, api.MaxDays-1, nine, none, whole, none, nine)
	for _, day := range noDays() {
		wrong(t, text(t, s), day, api.ErrRange, 0)
	}
}

func TestF1JustMaxRules(t *testing.T) {
	l := make([]api.Rule, api.MaxRules)
	want := make([]spans, api.MaxRules)
	for i := range l {
		// Each speaks of the next one twice: gone through anew each time, that would never end.
		next := called(nameOf(i + 1))
		l[i] = rule(nameOf(i), pair(api.EUnion, shift(1, next), shift(1, next)))
		want[i] = spans{{A: 100 + api.MaxRules - 1 - i, B: 200 + api.MaxRules - 1 - i}}
	}
	l[api.MaxRules-1].Expr = span(100, 200)
	means(t, l, someDay, want...)
	slices.Reverse(l)
	slices.Reverse(want)
	means(t, l, someDay, want...)
	wrongEverywhere(t, append(slices.Clone(l), rule("more", never())), api.ErrMany, 0)
}

func TestF1JustMaxDeepAndMaxNodes(t *testing.T) {
	means(t, alone(shifts(api.MaxDeep-1, 1, span(100, 200))), someDay, spans{{A: 139, B: 239}})
	means(t, alone(shifts(api.MaxDeep-1, -1, span(100, 200))), someDay, spans{{A: 61, B: 161}})
	means(t, alone(full(api.MaxNodes)), someDay, spans{{A: 60, B: 71}})
	means(t, alone(chained(api.MaxDeep)), someDay, spans{{A: 0, B: api.MaxDeep}})
}

func TestF1JustMaxRulesThatAreJustMaxDeep(t *testing.T) {
	l := make([]api.Rule, api.MaxRules)
	want := make([]spans, api.MaxRules)
	for i := range l {
		l[i] = rule(nameOf(i), shifts(api.MaxDeep-1, 1, called(nameOf(i+1))))
		if from := (api.MaxDeep - 1) * (api.MaxRules - 1 - i); from < api.Minutes {
			want[i] = spans{{A: from, B: api.Minutes}}
		}
	}
	l[api.MaxRules-1].Expr = shifts(api.MaxDeep-1, -1, always())
	want[api.MaxRules-1] = spans{{A: 0, B: api.Minutes - api.MaxDeep + 1}}
	means(t, l, 0, want...)
}

func TestF1WrongRules(t *testing.T) {
	good := rule("z", span(1, 2))
	for _, c := range []struct {
		e   api.Expr
		err api.Errno
	}{
		{api.Expr{}, api.ErrKind},
		{api.Expr{Kind: -1}, api.ErrKind},
		{api.Expr{Kind: 11}, api.ErrKind},
		{api.Expr{Kind: api.ENever, Kids: []api.Expr{never()}}, api.ErrMany},
		{api.Expr{Kind: api.EShift, A: 1}, api.ErrMany},
		{api.Expr{Kind: api.EWeek, A: 1}, api.ErrMany},
		{api.Expr{Kind: api.EDates}, api.ErrMany},
		{api.Expr{Kind: api.EUnion}, api.ErrMany},
		{api.Expr{Kind: api.EDiff, Kids: []api.Expr{never()}}, api.ErrMany},
		{api.Expr{Kind: api.EBoth, Kids: []api.Expr{never(), never(), never()}}, api.ErrMany},
		{span(-1, 2), api.ErrRange},
		{span(2, 2), api.ErrRange},
		{span(0, api.Minutes+1), api.ErrRange},
		{week(0, never()), api.ErrRange},
		{week(128, never()), api.ErrRange},
		{dates(-1, 0, never()), api.ErrRange},
		{dates(2, 1, never()), api.ErrRange},
		{dates(0, api.MaxDays, never()), api.ErrRange},
		{shift(0, never()), api.ErrRange},
		{shift(api.Minutes, never()), api.ErrRange},
		{shift(-api.Minutes, never()), api.ErrRange},
		{called(""), api.ErrName},
		{called("mon"), api.ErrName},
		{called(strings.Repeat("a", api.MaxWord+1)), api.ErrName},
		{shifts(api.MaxDeep, 1, never()), api.ErrMuch},
		{full(api.MaxNodes + 1), api.ErrMuch},
		{called("nobody"), api.ErrNone},
		{week(1, dates(5, 6, called("nobody"))), api.ErrNone},
		{called("a"), api.ErrCycle},
		{pair(api.EBoth, never(), shift(5, called("a"))), api.ErrCycle},
	} {
		wrongEverywhere(t, alone(c.e), c.err, 0)
		wrongEverywhere(t, []api.Rule{good, rule("a", c.e)}, c.err, 1)
		wrongEverywhere(t, []api.Rule{rule("a", c.e), good}, c.err, 0)
	}
	for _, name := range []string{"", "A", "1a", "rule", "always", "a-b", strings.Repeat("a", api.MaxWord+1)} {
		wrongEverywhere(t, []api.Rule{good, rule(name, never())}, api.ErrName, 1)
	}
}

func TestF1WrongTogether(t *testing.T) {
	wrongEverywhere(t, text(t, "rule a = never; rule b = never; rule a = never;"), api.ErrName, 2)
	wrongEverywhere(t, text(t, "rule a = b; rule b = never; rule c = b + d; rule e = f;"), api.ErrNone, 2)
	wrongEverywhere(t, text(t, "rule a = b; rule b = c; rule c = b;"), api.ErrCycle, 1)
	wrongEverywhere(t, text(t, "rule a = b; rule b = c; rule c = a;"), api.ErrCycle, 0)
	// The first error in the order of the chapters, not of the rules.
	wrongEverywhere(t, text(t, "rule a = a; rule b = c; rule b = never;"), api.ErrName, 2)
	wrongEverywhere(t, text(t, "rule a = a; rule b = c;"), api.ErrNone, 1)
	wrongEverywhere(t, []api.Rule{rule("a", called("b")), rule("a", never()), rule("c", span(3, 2))}, api.ErrRange, 2)
	many := make([]api.Rule, api.MaxRules+1)
	wrongEverywhere(t, many, api.ErrMany, 0)
}

func TestF1WrongWebsOfKids(t *testing.T) {
	// A list of kids that holds itself is too deep, not without an end.
	kids := make([]api.Expr, 1)
	kids[0] = api.Expr{Kind: api.EShift, A: 1, Kids: kids}
	wrongEverywhere(t, alone(kids[0]), api.ErrMuch, 0)
}

func TestF1FieldsThatAKindHasNotMeanNothing(t *testing.T) {
	l := []api.Rule{
		rule("a", api.Expr{Kind: api.ENever, A: 1, B: 5, Name: "b"}),
		rule("b", api.Expr{Kind: api.EAlways, A: 1, B: 5, Name: "b"}),
		rule("c", api.Expr{Kind: api.ESpan, A: 1, B: 5, Name: "c"}),
		rule("d", api.Expr{Kind: api.EWeek, A: 64, B: -5, Name: "d", Kids: []api.Expr{always()}}),
		rule("e", api.Expr{Kind: api.EDates, A: someDay, B: someDay, Name: "?", Kids: []api.Expr{always()}}),
		rule("f", api.Expr{Kind: api.EUnion, A: -1, B: 5, Name: "f", Kids: []api.Expr{never(), span(1, 2)}}),
		rule("g", api.Expr{Kind: api.EShift, A: 1, B: 5, Name: "g", Kids: []api.Expr{span(1, 2)}}),
		rule("h", api.Expr{Kind: api.EName, A: 1, B: 5, Name: "c"}),
	}
	means(t, l, someDay, none, whole, spans{{A: 1, B: 5}}, whole, whole, spans{{A: 1, B: 2}}, spans{{A: 2, B: 3}}, spans{{A: 1, B: 5}})
}

func TestF1AsMinuteByMinute(t *testing.T) {
	r := rand.New(rand.NewSource(6))
	something := 0
	for range 1500 {
		day := []int{0, 1, someDay, r.Intn(api.MaxDays), api.MaxDays - 1}[r.Intn(5)]
		l := anyRules(r, 1+r.Intn(5), day)
		got, fault := mean.All(l, day)
		if fault != (api.Fault{}) || len(got) != len(l) {
			t.Fatalf("All(%v, %d) is %d masks, %v", l, day, len(got), fault)
		}
		for i := range l {
			want := meant(l, l[i].Expr, day)
			if got[i] != want {
				t.Fatalf("All(%v, %d) has %x of rule %d, not %x", l, day, got[i], i, want)
			}
			if want != (api.Mask{}) && want != bits(whole) {
				something++
			}
		}
	}
	if something < 1000 {
		t.Errorf("only %d rules mean some minutes", something)
	}
}

func TestF1ANameStandsForItsRule(t *testing.T) {
	r := rand.New(rand.NewSource(7))
	for range 300 {
		day := r.Intn(api.MaxDays)
		l := anyRules(r, 1+r.Intn(4), day)
		got, _ := mean.All(l, day)
		for i := range l {
			one, fault := mean.All(alone(replaced(l, l[i].Expr)), day)
			if fault.Err == api.ErrMuch {
				continue
			}
			if fault != (api.Fault{}) || len(one) != 1 || one[0] != got[i] {
				t.Fatalf("rule %d of %v on day %d means another thing without names", i, l, day)
			}
		}
	}
}

func TestF1RulesAreOnlyRead(t *testing.T) {
	r := rand.New(rand.NewSource(8))
	for range 200 {
		day := r.Intn(api.MaxDays)
		plain := anyRules(r, 1+r.Intn(5), day)
		l := roomy(plain)
		before := spread(l)
		got, fault := mean.All(l, day)
		if !reflect.DeepEqual(before, spread(l)) {
			t.Fatalf("All changes %v", plain)
		}
		want, _ := mean.All(plain, day)
		if fault != (api.Fault{}) || !slices.Equal(got, want) {
			t.Fatalf("All of %v hangs on spare room", plain)
		}
	}
}

func TestF1MasksAreNew(t *testing.T) {
	l := text(t, "rule a = 09:00-10:00; rule b = a; rule c = always;")
	first, _ := mean.All(l, someDay)
	second, _ := mean.All(l, someDay)
	for i := range first {
		first[i] = api.Mask{}
	}
	// Names that change behind the call must not change what it answered.
	l[0].Expr.A, l[1].Name = 0, "z"
	nine := bits(spans{{A: 540, B: 600}})
	if !slices.Equal(second, []api.Mask{nine, nine, bits(whole)}) {
		t.Errorf("what was answered has become %x", second)
	}
}
