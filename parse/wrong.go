package parse

import (
	"slotrules/api"
	"slotrules/lex"
)

// Wrong tells what is wrong with rules, and at which one.
func Wrong(l []api.Rule) api.Fault {
	if len(l) > api.MaxRules {
		return api.Fault{Err: api.ErrMany}
	}
	for i, rule := range l {
		if err := wrongRule(rule); err != api.OK {
			return api.Fault{Err: err, At: i}
		}
	}
	return api.Fault{}
}

func wrongRule(r api.Rule) api.Errno {
	if !lex.Named(r.Name) {
		return api.ErrName
	}
	nodes := 0
	return wrongExpr(r.Expr, 1, &nodes)
}

// wrongExpr looks at an expression so deep, ahead of its kids; nodes counts all that were looked at.
func wrongExpr(e api.Expr, deep int, nodes *int) api.Errno {
	*nodes++
	// Lists of kids may hold themselves: these bounds end the walk.
	if *nodes > api.MaxNodes || deep > api.MaxDeep {
		return api.ErrMuch
	}
	if err := wrongAlone(e); err != api.OK {
		return err
	}
	for _, kid := range e.Kids {
		if err := wrongExpr(kid, deep+1, nodes); err != api.OK {
			return err
		}
	}
	return api.OK
}

// wrongAlone tells what is wrong with an expression, whatever its kids are.
func wrongAlone(e api.Expr) api.Errno {
	switch {
	case e.Kind < api.ENever || e.Kind > api.EName:
		return api.ErrKind
	case len(e.Kids) != kidsOf(e.Kind):
		return api.ErrMany
	case !inRange(e):
		return api.ErrRange
	case e.Kind == api.EName && !lex.Named(e.Name):
		return api.ErrName
	}
	return api.OK
}

// kidsOf is how many kids a kind has.
func kidsOf(kind int) int {
	switch kind {
	case api.EWeek, api.EDates, api.EShift:
		return 1
	case api.EUnion, api.EDiff, api.EBoth:
		return 2
	}
	return 0
}

// inRange tells whether the numbers are as the kind asks; those that it has not mean nothing.
func inRange(e api.Expr) bool {
	switch e.Kind {
	case api.ESpan:
		return e.A >= 0 && e.A < e.B && e.B <= api.Minutes
	case api.EWeek:
		return e.A >= 1 && e.A < 1<<len(dayNames)
	case api.EDates:
		return e.A >= 0 && e.A <= e.B && e.B < api.MaxDays
	case api.EShift:
		return e.A != 0 && e.A > -api.Minutes && e.A < api.Minutes
	}
	return true
}
