package code_test

import (
	"math/rand"
	"slices"
	"strconv"
	"testing"

	"slotrules/api"
	"slotrules/civil"
	"slotrules/masks"
	"slotrules/parse"
)

// text parses rules.
func text(t *testing.T, s string) []api.Rule {
	t.Helper()
	l, fault := parse.Parse(s)
	if fault != (api.Fault{}) {
		t.Fatalf("Parse(%q) is %v", s, fault)
	}
	return l
}

func never() api.Expr          { return api.Expr{Kind: api.ENever} }
func always() api.Expr         { return api.Expr{Kind: api.EAlways} }
func span(a, b int) api.Expr   { return api.Expr{Kind: api.ESpan, A: a, B: b} }
func called(s string) api.Expr { return api.Expr{Kind: api.EName, Name: s} }

func pair(kind int, a, b api.Expr) api.Expr {
	return api.Expr{Kind: kind, Kids: []api.Expr{a, b}}
}

func week(days int, kid api.Expr) api.Expr {
	return api.Expr{Kind: api.EWeek, A: days, Kids: []api.Expr{kid}}
}

func dates(a, b int, kid api.Expr) api.Expr {
	return api.Expr{Kind: api.EDates, A: a, B: b, Kids: []api.Expr{kid}}
}

func shift(by int, kid api.Expr) api.Expr {
	return api.Expr{Kind: api.EShift, A: by, Kids: []api.Expr{kid}}
}

// shifts shifts e by so much so many times.
func shifts(n, by int, e api.Expr) api.Expr {
	for range n {
		e = shift(by, e)
	}
	return e
}

func rule(name string, e api.Expr) api.Rule { return api.Rule{Name: name, Expr: e} }

// alone is one rule.
func alone(e api.Expr) []api.Rule { return []api.Rule{rule("a", e)} }

func nameOf(i int) string { return "r" + strconv.Itoa(i) }

// joined is the union of so many of one expression, as flat as may be.
func joined(n int, e api.Expr) api.Expr {
	if n == 1 {
		return e
	}
	return pair(api.EUnion, joined(n/2, e), joined(n-n/2, e))
}

// piled is unions so deep, each the second kid of the one around it; the last one is of e.
func piled(deep int, e api.Expr) api.Expr {
	for i := 1; i < deep; i++ {
		e = pair(api.EUnion, span(i, i+1), e)
	}
	return e
}

func spansOf(l ...api.Span) api.Ins { return api.Ins{Op: api.ISpans, Spans: l} }
func weekTo(days, to int) api.Ins   { return api.Ins{Op: api.IWeek, A: days, To: to} }
func datesTo(a, b, to int) api.Ins  { return api.Ins{Op: api.IDates, A: a, B: b, To: to} }
func by(n int) api.Ins              { return api.Ins{Op: api.IShift, A: n} }
func call(rule int) api.Ins         { return api.Ins{Op: api.ICall, A: rule} }
func sign(op int) api.Ins           { return api.Ins{Op: op} }

func code(high, steps int, l ...api.Ins) api.Code {
	return api.Code{Ins: l, High: high, Steps: steps}
}

// repeated is so many of one instruction.
func repeated(n int, ins api.Ins) []api.Ins {
	return slices.Repeat([]api.Ins{ins}, n)
}

// anyRules is so many rules with which nothing is wrong: each speaks only of those ahead of it, and then they are shuffled.
func anyRules(r *rand.Rand, n int) []api.Rule {
	l := make([]api.Rule, n)
	for i := range l {
		l[i] = rule(nameOf(i), anyExpr(r, 1+r.Intn(6), i))
	}
	r.Shuffle(n, func(i, j int) { l[i], l[j] = l[j], l[i] })
	return l
}

// anyExpr makes an expression that is right, at most so deep, of names below a number; in fields that its kind has not stands something.
func anyExpr(r *rand.Rand, deep, names int) api.Expr {
	kind := 1 + r.Intn(10)
	if deep <= 1 {
		kind = []int{api.ENever, api.EAlways, api.ESpan, api.EName}[r.Intn(4)]
	}
	if kind == api.EName && names == 0 {
		kind = api.ESpan
	}
	e := api.Expr{Kind: kind, A: r.Intn(9) - 4, B: r.Intn(9) - 4, Name: nameOf(r.Intn(names + 1))}
	kid := func() api.Expr { return anyExpr(r, deep-1, names) }
	switch kind {
	case api.ESpan:
		e.A = r.Intn(api.Minutes)
		e.B = e.A + 1 + r.Intn(api.Minutes-e.A)
	case api.EName:
		e.Name = nameOf(r.Intn(names))
	case api.EWeek:
		e.A, e.Kids = 1+r.Intn(127), []api.Expr{kid()}
	case api.EDates:
		a, b := someDay-3+r.Intn(7), someDay-3+r.Intn(7)
		e.A, e.B, e.Kids = min(a, b), max(a, b), []api.Expr{kid()}
	case api.EShift:
		by := 1 + r.Intn(90)
		e.A, e.Kids = by-r.Intn(2)*2*by, []api.Expr{kid()}
	case api.EUnion, api.EDiff, api.EBoth:
		e.Kids = []api.Expr{kid(), kid()}
	}
	return e
}

// speaks tells whether one of these kinds is in an expression.
func speaks(e api.Expr, kinds ...int) bool {
	return slices.Contains(kinds, e.Kind) || slices.ContainsFunc(e.Kids, func(kid api.Expr) bool { return speaks(kid, kinds...) })
}

// has tells whether an expression without days and names means a minute.
func has(e api.Expr, minute int) bool {
	kid := func(i int) bool { return has(e.Kids[i], minute) }
	switch e.Kind {
	case api.EAlways:
		return true
	case api.ESpan:
		return minute >= e.A && minute < e.B
	case api.EUnion:
		return kid(0) || kid(1)
	case api.EDiff:
		return kid(0) && !kid(1)
	case api.EBoth:
		return kid(0) && kid(1)
	case api.EShift:
		was := minute - e.A
		return was >= 0 && was < api.Minutes && has(e.Kids[0], was)
	}
	return false
}

// plainSpans is the spans of what an expression without days and names means.
func plainSpans(e api.Expr) []api.Span {
	var out []api.Span
	for minute := range api.Minutes {
		if !has(e, minute) {
			continue
		}
		if n := len(out); n > 0 && out[n-1].B == minute {
			out[n-1].B++
		} else {
			out = append(out, api.Span{A: minute, B: minute + 1})
		}
	}
	return out
}

// written is an expression's code by the document's words, from a place on.
func written(l []api.Rule, e api.Expr, from int) []api.Ins {
	if !speaks(e, api.EWeek, api.EDates, api.EName) {
		return []api.Ins{spansOf(plainSpans(e)...)}
	}
	if e.Kind == api.EName {
		return []api.Ins{call(slices.IndexFunc(l, func(r api.Rule) bool { return r.Name == e.Name }))}
	}
	if e.Kind == api.EWeek || e.Kind == api.EDates {
		kid := written(l, e.Kids[0], from+1)
		guard := weekTo(e.A, from+1+len(kid))
		if e.Kind == api.EDates {
			guard = datesTo(e.A, e.B, from+1+len(kid))
		}
		return append([]api.Ins{guard}, kid...)
	}
	var out []api.Ins
	for _, kid := range e.Kids {
		out = append(out, written(l, kid, from+len(out))...)
	}
	last := map[int]api.Ins{api.EShift: by(e.A), api.EUnion: sign(api.IUnion), api.EDiff: sign(api.IDiff), api.EBoth: sign(api.IBoth)}
	return append(out, last[e.Kind])
}

// machine runs code, and counts.
type machine struct {
	code        []api.Code
	stack       []api.Mask
	high, steps int
	on          func(guard api.Ins) bool
}

func (m *machine) put(mask api.Mask) {
	m.stack = append(m.stack, mask)
	m.high = max(m.high, len(m.stack))
}

func (m *machine) take() api.Mask {
	last := len(m.stack) - 1
	mask := m.stack[last]
	m.stack = m.stack[:last]
	return mask
}

func (m *machine) run(rule int) {
	for at := 0; at < len(m.code[rule].Ins); at++ {
		ins := m.code[rule].Ins[at]
		m.steps++
		switch ins.Op {
		case api.ISpans:
			m.put(masks.Of(ins.Spans))
		case api.IUnion:
			upper, lower := m.take(), m.take()
			m.put(masks.Union(lower, upper))
		case api.IDiff:
			upper, lower := m.take(), m.take()
			m.put(masks.Diff(lower, upper))
		case api.IBoth:
			upper, lower := m.take(), m.take()
			m.put(masks.Both(lower, upper))
		case api.IShift:
			m.put(masks.Shift(m.take(), ins.A))
		case api.IWeek, api.IDates:
			if !m.on(ins) {
				m.put(api.Mask{})
				at = ins.To - 1
			}
		case api.ICall:
			m.run(ins.A)
		}
	}
}

// run runs a rule's code on a day.
func run(l []api.Code, rule, day int) *machine {
	m := &machine{code: l, on: func(guard api.Ins) bool {
		if guard.Op == api.IWeek {
			return guard.A>>civil.Week(day)&1 == 1
		}
		return guard.A <= day && day <= guard.B
	}}
	m.run(rule)
	return m
}

// runAll runs a rule's code so that every instruction is come to.
func runAll(l []api.Code, rule int) *machine {
	m := &machine{code: l, on: func(api.Ins) bool { return true }}
	m.run(rule)
	return m
}

// roomy copies rules, with something in the spare room behind every list of theirs.
func roomy(l []api.Rule) []api.Rule {
	out := make([]api.Rule, len(l)+1)
	for i, r := range l {
		out[i] = rule(r.Name, roomyExpr(r.Expr))
	}
	out[len(l)] = rule("spare", never())
	return out[:len(l)]
}

func roomyExpr(e api.Expr) api.Expr {
	kids := make([]api.Expr, len(e.Kids)+1)
	for i, kid := range e.Kids {
		kids[i] = roomyExpr(kid)
	}
	kids[len(e.Kids)] = week(1, called("spare"))
	e.Kids = kids[:len(e.Kids)]
	return e
}

// spread is rules with their spare room as entries.
func spread(l []api.Rule) []api.Rule {
	var out []api.Rule
	for _, r := range l[:cap(l)] {
		out = append(out, rule(r.Name, spreadExpr(r.Expr)))
	}
	return out
}

func spreadExpr(e api.Expr) api.Expr {
	var kids []api.Expr
	for _, kid := range e.Kids[:cap(e.Kids)] {
		kids = append(kids, spreadExpr(kid))
	}
	e.Kids = kids
	return e
}
