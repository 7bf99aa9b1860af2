package parse_test

import (
	"math/rand"
	"reflect"
	"strconv"
	"strings"

	"slotrules/api"
)

func never() api.Expr              { return api.Expr{Kind: api.ENever} }
func always() api.Expr             { return api.Expr{Kind: api.EAlways} }
func span(a, b int) api.Expr       { return api.Expr{Kind: api.ESpan, A: a, B: b} }
func called(s string) api.Expr     { return api.Expr{Kind: api.EName, Name: s} }
func union(a, b api.Expr) api.Expr { return pair(api.EUnion, a, b) }
func diff(a, b api.Expr) api.Expr  { return pair(api.EDiff, a, b) }
func both(a, b api.Expr) api.Expr  { return pair(api.EBoth, a, b) }

func pair(kind int, a, b api.Expr) api.Expr {
	return api.Expr{Kind: kind, Kids: []api.Expr{a, b}}
}

func week(days int, kid api.Expr) api.Expr {
	return api.Expr{Kind: api.EWeek, A: days, Kids: []api.Expr{kid}}
}

func dates(a, b int, kid api.Expr) api.Expr {
	return api.Expr{Kind: api.EDates, A: a, B: b, Kids: []api.Expr{kid}}
}

func shift(by int, kid api.Expr) api.Expr {
	return api.Expr{Kind: api.EShift, A: by, Kids: []api.Expr{kid}}
}

// shifts shifts e by 1 minute so many times.
func shifts(n int, e api.Expr) api.Expr {
	for range n {
		e = shift(1, e)
	}
	return e
}

func rule(name string, e api.Expr) api.Rule { return api.Rule{Name: name, Expr: e} }

// full is an expression of so many others, and itself: as flat as may be.
func full(nodes int) api.Expr {
	switch nodes {
	case 1:
		return never()
	case 2:
		return shift(1, never())
	}
	left := (nodes - 1) / 2
	return union(full(left), full(nodes-1-left))
}

func nodesOf(e api.Expr) int {
	n := 1
	for _, kid := range e.Kids {
		n += nodesOf(kid)
	}
	return n
}

// same holds rules against each other, nil and lists without entries being the same.
func same(a, b []api.Rule) bool {
	if len(a) != len(b) {
		return false
	}
	for i := range a {
		if a[i].Name != b[i].Name || !sameExpr(a[i].Expr, b[i].Expr) {
			return false
		}
	}
	return true
}

func sameExpr(a, b api.Expr) bool {
	if a.Kind != b.Kind || a.A != b.A || a.B != b.B || a.Name != b.Name || len(a.Kids) != len(b.Kids) {
		return false
	}
	for i := range a.Kids {
		if !sameExpr(a.Kids[i], b.Kids[i]) {
			return false
		}
	}
	return true
}

// clone copies rules, with the spare room behind every list of theirs.
func clone(l []api.Rule) []api.Rule {
	out := make([]api.Rule, cap(l))
	for i, r := range l[:cap(l)] {
		out[i] = api.Rule{Name: strings.Clone(r.Name), Expr: cloneExpr(r.Expr)}
	}
	return out[:len(l)]
}

func cloneExpr(e api.Expr) api.Expr {
	if e.Kids == nil {
		return e
	}
	kids := make([]api.Expr, cap(e.Kids))
	for i, kid := range e.Kids[:cap(e.Kids)] {
		kids[i] = cloneExpr(kid)
	}
	e.Kids = kids[:len(e.Kids)]
	return e
}

func sameToTheSpareRoom(a, b []api.Rule) bool {
	return reflect.DeepEqual(a[:cap(a)], b[:cap(b)]) && sameSpareRooms(a[:cap(a)], b[:cap(b)])
}

func sameSpareRooms(a, b []api.Rule) bool {
	for i := range a {
		if !sameSpareRoom(a[i].Expr, b[i].Expr) {
			return false
		}
	}
	return true
}

func sameSpareRoom(a, b api.Expr) bool {
	k, l := a.Kids[:cap(a.Kids)], b.Kids[:cap(b.Kids)]
	if !reflect.DeepEqual(k, l) {
		return false
	}
	for i := range k {
		if !sameSpareRoom(k[i], l[i]) {
			return false
		}
	}
	return true
}

// anyExpr makes an expression that is right, at most so deep.
func anyExpr(r *rand.Rand, deep int) api.Expr {
	kind := 1 + r.Intn(10)
	if deep <= 1 {
		kind = []int{api.ENever, api.EAlways, api.ESpan, api.EName}[r.Intn(4)]
	}
	switch kind {
	case api.ESpan:
		a := r.Intn(api.Minutes)
		return span(a, a+1+r.Intn(api.Minutes-a))
	case api.EName:
		return called([]string{"a", "b", "a_1", "rules", "monday", strings.Repeat("z", api.MaxWord)}[r.Intn(6)])
	case api.EWeek:
		return week(1+r.Intn(127), anyExpr(r, deep-1))
	case api.EDates:
		a := r.Intn(api.MaxDays)
		return dates(a, a+r.Intn(2)*r.Intn(api.MaxDays-a), anyExpr(r, deep-1))
	case api.EShift:
		by := 1 + r.Intn(api.Minutes-1)
		return shift(by-r.Intn(2)*2*by, anyExpr(r, deep-1))
	case api.EUnion, api.EDiff, api.EBoth:
		return pair(kind, anyExpr(r, deep-1), anyExpr(r, deep-1))
	}
	return api.Expr{Kind: kind}
}

// inBrackets writes an expression with brackets around every kid, and its dates and days in another way than Print.
func inBrackets(e api.Expr) string {
	kid := func(i int) string { return "(" + inBrackets(e.Kids[i]) + ")" }
	switch e.Kind {
	case api.ENever:
		return "never"
	case api.EAlways:
		return "always"
	case api.ESpan:
		return clock(e.A) + "-" + clock(e.B)
	case api.EName:
		return e.Name
	case api.EWeek:
		var days []string
		for i, s := range []string{"sun", "sat", "fri", "thu", "wed", "tue", "mon"} {
			if e.A>>(6-i)&1 == 1 {
				days = append(days, s, s)
			}
		}
		return "weekly " + strings.Join(days, " ,\n") + ":" + kid(0)
	case api.EDates:
		return "dates " + date(e.A) + ".." + date(e.B) + ":" + kid(0)
	case api.EShift:
		return kid(0) + "shift " + strconv.Itoa(e.A)
	}
	return kid(0) + map[int]string{api.EUnion: "+", api.EDiff: "-", api.EBoth: "&"}[e.Kind] + kid(1)
}

func two(n int) string { return string([]byte{byte('0' + n/10%10), byte('0' + n%10)}) }

func clock(n int) string { return two(n/60) + ":" + two(n%60) }
