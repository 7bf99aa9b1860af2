package mean_test

import (
	"math/rand"
	"slices"
	"strconv"
	"testing"
	"time"

	"slotrules/api"
	"slotrules/parse"
)

// text parses rules.
func text(t *testing.T, s string) []api.Rule {
	t.Helper()
	l, fault := parse.Parse(s)
	if fault != (api.Fault{}) {
		t.Fatalf("Parse(%q) is %v", s, fault)
	}
	return l
}

func never() api.Expr          { return api.Expr{Kind: api.ENever} }
func always() api.Expr         { return api.Expr{Kind: api.EAlways} }
func span(a, b int) api.Expr   { return api.Expr{Kind: api.ESpan, A: a, B: b} }
func called(s string) api.Expr { return api.Expr{Kind: api.EName, Name: s} }

func pair(kind int, a, b api.Expr) api.Expr {
	return api.Expr{Kind: kind, Kids: []api.Expr{a, b}}
}

func week(days int, kid api.Expr) api.Expr {
	return api.Expr{Kind: api.EWeek, A: days, Kids: []api.Expr{kid}}
}

func dates(a, b int, kid api.Expr) api.Expr {
	return api.Expr{Kind: api.EDates, A: a, B: b, Kids: []api.Expr{kid}}
}

func shift(by int, kid api.Expr) api.Expr {
	return api.Expr{Kind: api.EShift, A: by, Kids: []api.Expr{kid}}
}

// shifts shifts e by so much so many times.
func shifts(n, by int, e api.Expr) api.Expr {
	for range n {
		e = shift(by, e)
	}
	return e
}

func rule(name string, e api.Expr) api.Rule { return api.Rule{Name: name, Expr: e} }

// alone is one rule.
func alone(e api.Expr) []api.Rule { return []api.Rule{rule("a", e)} }

// full is an expression of so many others, and itself: as flat as may be.
func full(nodes int) api.Expr {
	switch nodes {
	case 1:
		return span(60, 70)
	case 2:
		return shift(1, span(60, 70))
	}
	left := (nodes - 1) / 2
	return pair(api.EUnion, full(left), full(nodes-1-left))
}

// chained is unions so deep, each the second kid of the one around it, of as many minutes from 0 on.
func chained(deep int) api.Expr {
	e := span(0, 1)
	for i := 1; i < deep; i++ {
		e = pair(api.EUnion, span(i, i+1), e)
	}
	return e
}

func nameOf(i int) string { return "r" + strconv.Itoa(i) }

// anyRules is so many rules with which nothing is wrong: each speaks only of those ahead of it, and then they are shuffled.
func anyRules(r *rand.Rand, n, day int) []api.Rule {
	l := make([]api.Rule, n)
	for i := range l {
		l[i] = rule(nameOf(i), anyExpr(r, 1+r.Intn(6), i, day))
	}
	r.Shuffle(n, func(i, j int) { l[i], l[j] = l[j], l[i] })
	return l
}

// anyExpr makes an expression that is right, at most so deep, of names below a number; its dates are near a day, and in fields that its kind has not stands something.
func anyExpr(r *rand.Rand, deep, names, day int) api.Expr {
	kind := 1 + r.Intn(10)
	if deep <= 1 {
		kind = []int{api.ENever, api.EAlways, api.ESpan, api.EName}[r.Intn(4)]
	}
	if kind == api.EName && names == 0 {
		kind = api.ESpan
	}
	e := api.Expr{Kind: kind, A: r.Intn(9) - 4, B: r.Intn(9) - 4, Name: nameOf(r.Intn(names + 1))}
	kid := func() api.Expr { return anyExpr(r, deep-1, names, day) }
	switch kind {
	case api.ESpan:
		e.A = r.Intn(api.Minutes)
		e.B = e.A + 1 + r.Intn(api.Minutes-e.A)
	case api.EName:
		e.Name = nameOf(r.Intn(names))
	case api.EWeek:
		e.A, e.Kids = 1+r.Intn(127), []api.Expr{kid()}
	case api.EDates:
		a, b := near(r, day), near(r, day)
		e.A, e.B, e.Kids = min(a, b), max(a, b), []api.Expr{kid()}
	case api.EShift:
		by := 1 + r.Intn(api.Minutes-1)
		if r.Intn(2) == 0 {
			by = 1 + by/20
		}
		e.A, e.Kids = by-r.Intn(2)*2*by, []api.Expr{kid()}
	case api.EUnion, api.EDiff, api.EBoth:
		e.Kids = []api.Expr{kid(), kid()}
	}
	return e
}

// near is a day at most three days off.
func near(r *rand.Rand, day int) int {
	return min(max(day-3+r.Intn(7), 0), api.MaxDays-1)
}

// has tells whether an expression of rules means a minute on a day: the document's words, minute by minute.
func has(l []api.Rule, e api.Expr, day, minute int) bool {
	kid := func(i int) bool { return has(l, e.Kids[i], day, minute) }
	switch e.Kind {
	case api.ENever:
		return false
	case api.EAlways:
		return true
	case api.ESpan:
		return minute >= e.A && minute < e.B
	case api.EWeek:
		return e.A/(1<<weekday(day))%2 == 1 && kid(0)
	case api.EDates:
		return !(day < e.A || day > e.B) && kid(0)
	case api.EUnion:
		return kid(0) || kid(1)
	case api.EDiff:
		return kid(0) && !kid(1)
	case api.EBoth:
		return kid(0) && kid(1)
	case api.EShift:
		was := minute - e.A
		return was >= 0 && was < api.Minutes && has(l, e.Kids[0], day, was)
	}
	at := slices.IndexFunc(l, func(r api.Rule) bool { return r.Name == e.Name })
	return has(l, l[at].Expr, day, minute)
}

// weekday is the library's, Monday being 0.
func weekday(day int) int {
	first := time.Date(2000, time.January, 1, 0, 0, 0, 0, time.UTC)
	return (int(first.AddDate(0, 0, day).Weekday()) + 6) % 7
}

// meant is the mask of what has tells.
func meant(l []api.Rule, e api.Expr, day int) api.Mask {
	var m api.Mask
	for minute := range api.Minutes {
		if has(l, e, day, minute) {
			m[minute/64] |= 1 << (minute % 64)
		}
	}
	return m
}

// replaced is an expression with the expressions of rules in place of their names.
func replaced(l []api.Rule, e api.Expr) api.Expr {
	if e.Kind == api.EName {
		at := slices.IndexFunc(l, func(r api.Rule) bool { return r.Name == e.Name })
		return replaced(l, l[at].Expr)
	}
	kids := make([]api.Expr, len(e.Kids))
	for i, kid := range e.Kids {
		kids[i] = replaced(l, kid)
	}
	e.Kids = kids
	return e
}

// roomy copies rules, with something in the spare room behind every list of theirs.
func roomy(l []api.Rule) []api.Rule {
	out := make([]api.Rule, len(l)+1)
	for i, r := range l {
		out[i] = rule(r.Name, roomyExpr(r.Expr))
	}
	out[len(l)] = rule("spare", never())
	return out[:len(l)]
}

func roomyExpr(e api.Expr) api.Expr {
	kids := make([]api.Expr, len(e.Kids)+1)
	for i, kid := range e.Kids {
		kids[i] = roomyExpr(kid)
	}
	kids[len(e.Kids)] = always()
	e.Kids = kids[:len(e.Kids)]
	return e
}

// spread is rules with their spare room as entries.
func spread(l []api.Rule) []api.Rule {
	var out []api.Rule
	for _, r := range l[:cap(l)] {
		out = append(out, rule(r.Name, spreadExpr(r.Expr)))
	}
	return out
}

func spreadExpr(e api.Expr) api.Expr {
	var kids []api.Expr
	for _, kid := range e.Kids[:cap(e.Kids)] {
		kids = append(kids, spreadExpr(kid))
	}
	e.Kids = kids
	return e
}
