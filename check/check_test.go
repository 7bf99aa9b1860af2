package check_test

import (
	"fmt"
	"math"
	"math/rand"
	"reflect"
	"slices"
	"strings"
	"testing"

	"slotrules/api"
	"slotrules/check"
	"slotrules/parse"
)

// uses asks for what each rule refers to, and for nothing just outside of them.
func uses(t *testing.T, l []api.Rule, want ...[]int) {
	t.Helper()
	if got := check.Wrong(l); got != (api.Fault{}) {
		t.Errorf("Wrong(%.300s) is %v", fmt.Sprint(l), got)
	}
	if len(want) != len(l) {
		t.Fatalf("%d rules are asked for, not %d", len(want), len(l))
	}
	for i := range l {
		if got := check.Uses(l, i); !slices.Equal(got, want[i]) {
			t.Errorf("Uses(%.300s, %d) is %v, not %v", fmt.Sprint(l), i, got, want[i])
		}
	}
	usesNone(t, l, -1, len(l), len(l)+1, -len(l), math.MinInt, math.MaxInt)
}

func usesNone(t *testing.T, l []api.Rule, rules ...int) {
	t.Helper()
	for _, i := range rules {
		if got := check.Uses(l, i); len(got) != 0 {
			t.Errorf("Uses(%.300s, %d) is %v", fmt.Sprint(l), i, got)
		}
	}
}

// wrong asks for a fault, and for no Uses of any rule.
func wrong(t *testing.T, l []api.Rule, err api.Errno, at int) {
	t.Helper()
	if got, want := check.Wrong(l), (api.Fault{Err: err, At: at}); got != want {
		t.Errorf("Wrong(%.300s) is %v, not %v", fmt.Sprint(l), got, want)
	}
	usesNone(t, l, -1, len(l), math.MaxInt)
	for i := range l {
		usesNone(t, l, i)
	}
}

func wrongText(t *testing.T, s string, err api.Errno, at int) {
	t.Helper()
	wrong(t, text(t, s), err, at)
}

func TestE1Uses(t *testing.T) {
	uses(t, text(t, "rule a = never;"), nil)
	uses(t, text(t, "rule a = never; rule b = 09:00-10:00 + always;"), nil, nil)
	uses(t, text(t, "rule a = b; rule b = never;"), []int{1}, nil)
	uses(t, text(t, "rule a = never; rule b = a;"), nil, []int{0})
	uses(t, text(t, "rule c = b; rule a = never; rule b = a;"), []int{1, 2}, nil, []int{1})
	uses(t, text(t, "rule a = d - b & c; rule b = never; rule c = never; rule d = never;"), []int{1, 2, 3}, nil, nil, nil)
	uses(t, text(t, "rule b = a & (a + c) - c; rule a = never; rule c = 10:00-11:00;"), []int{1, 2}, nil, nil)
}

func TestE1UsesOfOneBySeveralWays(t *testing.T) {
	uses(t, text(t, "rule a = b + c; rule b = d; rule c = d; rule d = never;"), []int{1, 2, 3}, []int{3}, []int{3}, nil)
	uses(t, text(t, "rule d = never; rule c = d; rule b = d + c; rule a = b + d + c;"), nil, []int{0}, []int{0, 1}, []int{0, 1, 2})
	uses(t, text(t, "rule a = b + b; rule b = c & c; rule c = never;"), []int{1, 2}, []int{2}, nil)
}

func TestE1NamesStandAnywhere(t *testing.T) {
	for _, s := range []string{
		"b", "(b)", "b shift 5", "b shift 5 shift -5", "weekly mon: b", "dates 2026-11-17: b", "weekly mon: dates 2026-11-17..2026-11-18: (b shift 5)",
		"b + never", "never + b", "b - never", "never - b", "b & never", "never & b", "never + always - 09:00-10:00 & (weekly sun: (always - b))",
	} {
		uses(t, text(t, "rule x = never; rule a = "+s+"; rule b = x;"), nil, []int{0, 2}, []int{0})
		wrongText(t, "rule x = never; rule a = "+s+";", api.ErrNone, 1)
		wrongText(t, "rule x = never; rule b = "+s+";", api.ErrCycle, 1)
	}
}

func TestE1NoRules(t *testing.T) {
	uses(t, nil)
	uses(t, []api.Rule{})
	usesNone(t, nil, 0, 1, -1)
	usesNone(t, []api.Rule{}, 0, 1, -1)
}

func TestE1ManyRulesInARow(t *testing.T) {
	l := row(api.MaxRules)
	var want [][]int
	for i := range l {
		var list []int
		for j := i + 1; j < len(l); j++ {
			list = append(list, j)
		}
		want = append(want, list)
	}
	uses(t, l, want...)
	slices.Reverse(l)
	for i := range want {
		want[i] = nil
		for j := range i {
			want[i] = append(want[i], j)
		}
	}
	uses(t, l, want...)
	wrong(t, ring(api.MaxRules), api.ErrCycle, 0)
	wrong(t, row(api.MaxRules+1), api.ErrMany, 0)
}

func TestE1GreatRules(t *testing.T) {
	l := row(api.MaxRules)
	for i := range l {
		e := l[i].Expr
		for range api.MaxDeep - 1 {
			e = shift(1, e)
		}
		l[i].Expr = e
	}
	if got := check.Uses(l, 0); len(got) != api.MaxRules-1 {
		t.Errorf("Uses is %v", got)
	}
	for i := range l {
		l[i].Expr = speaker(api.MaxNodes, i+1, len(l))
	}
	if got := check.Wrong(l); got != (api.Fault{}) {
		t.Errorf("Wrong is %v", got)
	}
	if got := check.Uses(l, 3); len(got) != api.MaxRules-4 || got[0] != 4 {
		t.Errorf("Uses is %v", got)
	}
}

// speaker is an expression of so many, that speaks of rules from one on, again and again.
func speaker(nodes, from, n int) api.Expr {
	switch {
	case nodes == 1 && from < n:
		return called(nameOf(from))
	case nodes == 1:
		return never()
	case nodes == 2:
		return shift(1, speaker(1, from, n))
	}
	left := (nodes - 1) / 2
	next := from + 1
	if next >= n {
		next = from
	}
	return pair(api.EUnion, speaker(left, from, n), speaker(nodes-1-left, next, n))
}

func TestE1WrongForm(t *testing.T) {
	wrong(t, make([]api.Rule, 1), api.ErrName, 0)
	wrong(t, make([]api.Rule, api.MaxRules+1), api.ErrMany, 0)
	wrong(t, []api.Rule{rule("a", never()), rule("mon", never())}, api.ErrName, 1)
	deep := never()
	for range api.MaxDeep {
		deep = shift(1, deep)
	}
	for _, c := range []struct {
		e   api.Expr
		err api.Errno
	}{
		{api.Expr{}, api.ErrKind},
		{api.Expr{Kind: api.EName + 1, Name: "a"}, api.ErrKind},
		{deep, api.ErrMuch},
		{speaker(api.MaxNodes+1, 0, 1), api.ErrMuch},
		{api.Expr{Kind: api.EUnion, Kids: []api.Expr{never()}}, api.ErrMany},
		{api.Expr{Kind: api.EName, Name: "a", Kids: []api.Expr{never()}}, api.ErrMany},
		{api.Expr{Kind: api.ESpan, A: 5, B: 5}, api.ErrRange},
		{shift(0, never()), api.ErrRange},
		{called(""), api.ErrName},
		{called("always"), api.ErrName},
	} {
		l := []api.Rule{rule("a", never()), rule("b", c.e), rule("c", never())}
		if got := parse.Wrong(l); got != (api.Fault{Err: c.err, At: 1}) {
			t.Fatalf("parse says %v of %.300v", got, c.e)
		}
		wrong(t, l, c.err, 1)
		// Ahead of what rules refer to, wherever that is wrong.
		wrong(t, []api.Rule{rule("a", called("a")), rule("b", c.e), rule("a", called("zz"))}, c.err, 1)
	}
}

func TestE1NamesThatAreTaken(t *testing.T) {
	wrongText(t, "rule a = never; rule a = always;", api.ErrName, 1)
	wrongText(t, "rule a = never; rule b = a; rule c = a; rule b = a;", api.ErrName, 3)
	wrongText(t, "rule a = never; rule a = never; rule a = never;", api.ErrName, 1)
	wrongText(t, "rule a = never; rule b = never; rule b = never; rule a = never;", api.ErrName, 2)
	wrongText(t, "rule x = never; rule a = never; rule b = never; rule a = never; rule b = never;", api.ErrName, 3)
	l := row(api.MaxRules)
	l[api.MaxRules-1].Name = l[0].Name
	wrong(t, l, api.ErrName, api.MaxRules-1)
	long := strings.Repeat("a", api.MaxWord-1)
	uses(t, text(t, "rule "+long+"a = "+long+"b; rule "+long+"b = "+long+"; rule "+long+" = never;"), []int{1, 2}, []int{2}, nil)
}

func TestE1NamesThatNoRuleHas(t *testing.T) {
	wrongText(t, "rule a = zz;", api.ErrNone, 0)
	wrongText(t, "rule a = never; rule b = a; rule c = a + cc;", api.ErrNone, 2)
	wrongText(t, "rule a = c; rule b = zz; rule c = yy;", api.ErrNone, 1)
	wrongText(t, "rule a = c; rule b = never; rule c = yy;", api.ErrNone, 2)
	wrongText(t, "rule aa = a;", api.ErrNone, 0)
	wrongText(t, "rule a = aa;", api.ErrNone, 0)
}

func TestE1Cycles(t *testing.T) {
	wrongText(t, "rule a = a;", api.ErrCycle, 0)
	wrongText(t, "rule a = never; rule b = a + b;", api.ErrCycle, 1)
	wrongText(t, "rule a = b; rule b = a;", api.ErrCycle, 0)
	wrongText(t, "rule a = b; rule b = c; rule c = a & b;", api.ErrCycle, 0)
	for n := 1; n <= api.MaxRules; n++ {
		wrong(t, ring(n), api.ErrCycle, 0)
	}
}

// What only refers to such as refer to themselves is right.
func TestE1CyclesOfOthers(t *testing.T) {
	wrongText(t, "rule x = never; rule a = b; rule b = b;", api.ErrCycle, 2)
	wrongText(t, "rule a = b; rule b = c; rule c = d; rule d = e; rule e = d;", api.ErrCycle, 3)
	wrongText(t, "rule a = c + b; rule b = d; rule x = never; rule c = d; rule d = c;", api.ErrCycle, 3)
	wrongText(t, "rule a = x; rule b = c; rule c = a + b; rule x = never;", api.ErrCycle, 1)
	wrongText(t, "rule a = c; rule b = b; rule c = c;", api.ErrCycle, 1)
}

func TestE1SeveralErrors(t *testing.T) {
	wrongText(t, "rule a = a; rule b = zz; rule c = never; rule c = never;", api.ErrName, 3)
	wrongText(t, "rule a = zz; rule b = b; rule a = never;", api.ErrName, 2)
	wrongText(t, "rule a = zz; rule a = a;", api.ErrName, 1)
	wrongText(t, "rule a = a; rule b = c; rule c = b; rule d = zz;", api.ErrNone, 3)
	wrongText(t, "rule a = a + zz;", api.ErrNone, 0)
	wrongText(t, "rule a = zz + a;", api.ErrNone, 0)
	l := text(t, "rule a = zz; rule b = b; rule a = never; rule c = never;")
	l[3].Expr.Kind = 0
	wrong(t, l, api.ErrKind, 3)
	l[3].Name = ""
	wrong(t, l, api.ErrName, 3)
}

// A field that a kind has not is no name that is spoken of.
func TestE1FieldsThatAKindHasNot(t *testing.T) {
	uses(t, []api.Rule{rule("a", api.Expr{Kind: api.ENever, Name: "b"}), rule("b", api.Expr{Kind: api.EAlways, Name: "zz"})}, nil, nil)
	e := pair(api.EUnion, never(), called("b"))
	e.Name = "a"
	uses(t, []api.Rule{rule("a", e), rule("b", api.Expr{Kind: api.ESpan, B: 5, Name: "a"})}, []int{1}, nil)
	uses(t, []api.Rule{rule("a", api.Expr{Kind: api.EName, A: -5, B: 99, Name: "b", Kids: []api.Expr{}}), rule("b", never())}, []int{1}, nil)
}

// Many webs of rules, held against Warshall's loops.
func TestE1Webs(t *testing.T) {
	r := rand.New(rand.NewSource(5))
	right, cycles := 0, 0
	for range 4000 {
		speaks := anySpeaks(r, 1+r.Intn(12))
		l, want := web(r, speaks), make([][]int, len(speaks))
		cycle := -1
		for i, refers := range closed(speaks) {
			for j, ok := range refers {
				if ok {
					want[i] = append(want[i], j)
				}
			}
			if cycle < 0 && refers[i] {
				cycle = i
			}
		}
		if cycle >= 0 {
			cycles++
			wrong(t, l, api.ErrCycle, cycle)
			continue
		}
		right++
		uses(t, l, want...)
	}
	if right < 1000 || cycles < 1000 {
		t.Errorf("%d webs are right, %d are not", right, cycles)
	}
}

func TestZ1KidsWithinThemselves(t *testing.T) {
	kids := make([]api.Expr, 2)
	kids[0] = called("a")
	kids[1] = api.Expr{Kind: api.EUnion, Kids: kids}
	wrong(t, []api.Rule{rule("a", kids[1])}, api.ErrMuch, 0)
}

// Z2: the spare room behind lists is neither looked at nor changed, and answers are new memory.
func TestZ2RulesAreOnlyRead(t *testing.T) {
	kids := append(make([]api.Expr, 0, 4), called("b"), called("c"), called("zz"), called("a"))[:2]
	l := append(make([]api.Rule, 0, 8), rule("a", api.Expr{Kind: api.EBoth, Kids: kids}), rule("b", never()), rule("c", called("b")))
	spare := l[:cap(l)]
	for i := len(l); i < len(spare); i++ {
		spare[i] = rule("a", called("zz"))
	}
	spareKids := kids[:cap(kids)]
	before, beforeKids := slices.Clone(spare), slices.Clone(spareKids)
	uses(t, l, []int{1, 2}, nil, []int{1})
	if !reflect.DeepEqual(spare, before) || !reflect.DeepEqual(spareKids, beforeKids) {
		t.Errorf("rules are %v, not %v, when they were looked at", spare, before)
	}
	one, two := check.Uses(l, 0), check.Uses(l, 0)
	for i := range one[:cap(one)] {
		one[:cap(one)][i] = 99
	}
	if !slices.Equal(two, []int{1, 2}) {
		t.Errorf("Uses is %v, when another answer was changed", two)
	}
}

func TestNumbers(t *testing.T) {
	if got := check.Numbers(nil); len(got) != 0 {
		t.Errorf("Numbers(nil) is %v", got)
	}
	// Of rules with which something is wrong, too: the first one that has a name.
	l := []api.Rule{rule("b", never()), rule("a", never()), rule("", api.Expr{}), rule("b", called("c")), rule("a", never())}
	if got, want := check.Numbers(l), map[string]int{"b": 0, "a": 1, "": 2}; !reflect.DeepEqual(got, want) {
		t.Errorf("Numbers(%v) is %v, not %v", l, got, want)
	}
}
