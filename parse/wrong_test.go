package parse_test

import (
	"fmt"
	"math"
	"strings"
	"testing"

	"slotrules/api"
	"slotrules/parse"
)

// wrong asks Wrong and Print for the same fault.
func wrong(t *testing.T, l []api.Rule, err api.Errno, at int) {
	t.Helper()
	want := api.Fault{Err: err, At: at}
	if got := parse.Wrong(l); got != want {
		t.Errorf("Wrong(%.300s) is %v, not %v", fmt.Sprint(l), got, want)
	}
	if text, got := parse.Print(l); got != want || text != "" {
		t.Errorf("Print(%.300s) is %q, %v, not %v", fmt.Sprint(l), text, got, want)
	}
}

// wrongOne asks for an error of an expression, wherever it stands.
func wrongOne(t *testing.T, e api.Expr, err api.Errno) {
	t.Helper()
	wrong(t, []api.Rule{rule("a", e)}, err, 0)
	wrong(t, []api.Rule{rule("a", never()), rule("b", union(called("a"), e)), rule("c", e)}, err, 1)
	wrong(t, []api.Rule{rule("a", never()), rule("b", always()), rule("c", diff(shift(5, week(3, e)), api.Expr{}))}, err, 2)
}

func right(t *testing.T, l []api.Rule) {
	t.Helper()
	if got := parse.Wrong(l); got != (api.Fault{}) {
		t.Errorf("Wrong(%.300s) is %v", fmt.Sprint(l), got)
	}
}

func rightOne(t *testing.T, e api.Expr) {
	t.Helper()
	right(t, []api.Rule{rule("a", e)})
	right(t, []api.Rule{rule("a", both(never(), dates(5, 6, shift(-5, e)))), rule("b", week(1, e))})
}

func TestD3Right(t *testing.T) {
	right(t, nil)
	right(t, []api.Rule{})
	right(t, []api.Rule{rule("a", called("a")), rule("a", called("b")), rule(strings.Repeat("z", api.MaxWord), never())})
	for _, e := range []api.Expr{
		never(), always(), called("b"), called("rules"), called(strings.Repeat("z", api.MaxWord)),
		span(0, 1440), span(0, 1), span(1439, 1440), span(540, 600),
		week(1, never()), week(127, never()), week(64, never()),
		dates(0, 0, never()), dates(0, api.MaxDays-1, never()), dates(api.MaxDays-1, api.MaxDays-1, never()), dates(9815, 9816, never()),
		shift(1, never()), shift(-1, never()), shift(1439, never()), shift(-1439, never()),
		union(never(), always()), diff(never(), always()), both(never(), always()),
	} {
		rightOne(t, e)
	}
}

func TestD3FieldsThatAKindHasNot(t *testing.T) {
	for _, e := range []api.Expr{never(), always(), called("b"), span(540, 600), week(1, never()), dates(5, 6, never()), shift(5, never()), union(never(), always()), diff(never(), always()), both(never(), always())} {
		if e.Kind != api.ESpan && e.Kind != api.EDates {
			e.B = -7777
		}
		if e.Kind != api.ESpan && e.Kind != api.EDates && e.Kind != api.EWeek && e.Kind != api.EShift {
			e.A = math.MinInt
		}
		if e.Kind != api.EName {
			e.Name = "No Name"
		}
		if len(e.Kids) == 0 {
			e.Kids = []api.Expr{}
		}
		rightOne(t, e)
	}
}

func TestD3ManyRules(t *testing.T) {
	l := make([]api.Rule, api.MaxRules+1)
	for i := range l {
		l[i] = rule("a", never())
	}
	right(t, l[:api.MaxRules])
	wrong(t, l, api.ErrMany, 0)
	l[0].Name = ""
	wrong(t, l, api.ErrMany, 0)
	wrong(t, make([]api.Rule, api.MaxRules+1), api.ErrMany, 0)
	l[0].Name = "a"
	l[api.MaxRules-1].Expr.Kind = 0
	wrong(t, l[:api.MaxRules], api.ErrKind, api.MaxRules-1)
}

func TestD3RuleNames(t *testing.T) {
	for _, s := range []string{"", "A", "1", "_a", "rule", "mon", "never", "a b", "a;", "é", strings.Repeat("a", api.MaxWord+1)} {
		wrong(t, []api.Rule{rule(s, never())}, api.ErrName, 0)
		wrong(t, []api.Rule{rule("a", never()), rule(s, api.Expr{})}, api.ErrName, 1)
		wrong(t, []api.Rule{rule("a", api.Expr{}), rule(s, never())}, api.ErrKind, 0)
		wrongOne(t, called(s), api.ErrName)
	}
}

func TestD3Kinds(t *testing.T) {
	for _, kind := range []int{0, -1, 11, 12, 99, math.MinInt, math.MaxInt} {
		wrongOne(t, api.Expr{Kind: kind}, api.ErrKind)
		wrongOne(t, api.Expr{Kind: kind, A: 1, B: 1, Name: "b", Kids: []api.Expr{never()}}, api.ErrKind)
		wrongOne(t, api.Expr{Kind: kind, Kids: []api.Expr{never(), never(), called("")}}, api.ErrKind)
	}
}

func TestD3Kids(t *testing.T) {
	kids := map[int]int{api.ENever: 0, api.EAlways: 0, api.ESpan: 0, api.EName: 0, api.EWeek: 1, api.EDates: 1, api.EShift: 1, api.EUnion: 2, api.EDiff: 2, api.EBoth: 2}
	for kind, want := range kids {
		for n := range 5 {
			e := api.Expr{Kind: kind, A: 1, B: 2, Name: "b"}
			for range n {
				e.Kids = append(e.Kids, never())
			}
			if n == want {
				rightOne(t, e)
				continue
			}
			wrongOne(t, e, api.ErrMany)
			// Ahead of its numbers and its name, and of its kids.
			e.A, e.B, e.Name = -7777, -8888, ""
			wrongOne(t, e, api.ErrMany)
			for i := range e.Kids {
				e.Kids[i] = api.Expr{}
			}
			wrongOne(t, e, api.ErrMany)
		}
	}
	wrongOne(t, api.Expr{Kind: api.ENever, Kids: make([]api.Expr, 1000000)}, api.ErrMany)
}

func TestD3Ranges(t *testing.T) {
	for _, e := range []api.Expr{
		span(0, 0), span(-1, 5), span(5, 1441), span(5, 5), span(6, 5), span(1440, 1440), span(1440, 1441), span(-2, -1), span(math.MinInt, math.MaxInt), span(0, math.MaxInt), span(math.MinInt, 1),
		week(0, never()), week(128, never()), week(-1, never()), week(129, never()), week(math.MaxInt, never()), week(math.MinInt, never()),
		dates(-1, 0, never()), dates(-2, -1, never()), dates(0, api.MaxDays, never()), dates(5, 4, never()), dates(api.MaxDays, api.MaxDays, never()), dates(math.MinInt, math.MaxInt, never()), dates(api.MaxDays, 0, never()), dates(0, -1, never()),
		shift(0, never()), shift(1440, never()), shift(-1440, never()), shift(math.MaxInt, never()), shift(math.MinInt, never()),
	} {
		wrongOne(t, e, api.ErrRange)
		// Ahead of its kids.
		if len(e.Kids) > 0 {
			e.Kids = []api.Expr{{}}
			wrongOne(t, e, api.ErrRange)
		}
	}
}

func TestD3KidsFromTheLeft(t *testing.T) {
	noName, noKind, noKids, noRange := called(""), api.Expr{}, api.Expr{Kind: api.EUnion}, span(0, 0)
	wrongOne(t, union(noName, noKind), api.ErrName)
	wrongOne(t, union(noKind, noName), api.ErrKind)
	wrongOne(t, union(shift(1, week(1, noRange)), noKind), api.ErrRange)
	wrongOne(t, both(diff(never(), noKids), noRange), api.ErrMany)
	wrongOne(t, diff(never(), union(always(), noName)), api.ErrName)
	wrongOne(t, dates(5, 5, noKind), api.ErrKind)
	wrong(t, []api.Rule{rule("a", never()), rule("b", noRange), rule("", noKind)}, api.ErrRange, 1)
}

func TestD3ManyExpressions(t *testing.T) {
	most := full(api.MaxNodes)
	if n := nodesOf(most); n != api.MaxNodes {
		t.Fatalf("there are %d", n)
	}
	right(t, []api.Rule{rule("a", most)})
	right(t, []api.Rule{rule("a", most), rule("b", most), rule("c", never())})
	wrong(t, []api.Rule{rule("a", full(api.MaxNodes+1))}, api.ErrMuch, 0)
	wrong(t, []api.Rule{rule("a", never()), rule("b", full(api.MaxNodes+1))}, api.ErrMuch, 1)
	wrong(t, []api.Rule{rule("a", shift(1, most))}, api.ErrMuch, 0)
	// The last one is too much, whatever it is; the one ahead of it is not.
	wrong(t, []api.Rule{rule("a", union(full(api.MaxNodes-2), api.Expr{}))}, api.ErrKind, 0)
	wrong(t, []api.Rule{rule("a", union(full(api.MaxNodes-1), api.Expr{}))}, api.ErrMuch, 0)
	wrong(t, []api.Rule{rule("a", union(api.Expr{}, full(api.MaxNodes)))}, api.ErrKind, 0)
}

func TestD3DeepExpressions(t *testing.T) {
	right(t, []api.Rule{rule("a", shifts(api.MaxDeep-1, never()))})
	wrong(t, []api.Rule{rule("a", shifts(api.MaxDeep, never()))}, api.ErrMuch, 0)
	right(t, []api.Rule{rule("a", union(never(), shifts(api.MaxDeep-2, never())))})
	wrong(t, []api.Rule{rule("a", never()), rule("a", union(never(), shifts(api.MaxDeep-1, never())))}, api.ErrMuch, 1)
	wrong(t, []api.Rule{rule("a", shifts(api.MaxDeep-1, api.Expr{}))}, api.ErrKind, 0)
	wrong(t, []api.Rule{rule("a", shifts(api.MaxDeep, api.Expr{}))}, api.ErrMuch, 0)
	wrong(t, []api.Rule{rule("a", union(shifts(api.MaxDeep, never()), api.Expr{}))}, api.ErrMuch, 0)
	wrong(t, []api.Rule{rule("a", union(api.Expr{}, shifts(api.MaxDeep, never())))}, api.ErrKind, 0)
	wrong(t, []api.Rule{rule("a", shifts(30000, never()))}, api.ErrMuch, 0)
}

func TestZ1KidsWithinThemselves(t *testing.T) {
	one := make([]api.Expr, 1)
	one[0] = api.Expr{Kind: api.EShift, A: 1, Kids: one}
	wrong(t, []api.Rule{rule("a", one[0])}, api.ErrMuch, 0)
	two := make([]api.Expr, 2)
	two[0] = api.Expr{Kind: api.EBoth, Kids: two}
	two[1] = two[0]
	wrong(t, []api.Rule{rule("a", two[0])}, api.ErrMuch, 0)
}

// Z2: the spare room behind lists is neither looked at nor changed.
func TestZ2RulesAreOnlyRead(t *testing.T) {
	kids := append(make([]api.Expr, 0, 5), never(), union(always(), called("b")))
	l := append(make([]api.Rule, 0, api.MaxRules+5), rule("a", api.Expr{Kind: api.EBoth, Kids: kids}), rule("b", week(3, span(1, 2))))
	spare := l[:cap(l)]
	for i := len(l); i < len(spare); i++ {
		spare[i] = rule("?", api.Expr{Kind: 77, Kids: []api.Expr{{Kind: 78}}})
	}
	kids[:5][2].Kind = 79
	before := clone(l)
	right(t, l)
	if text, fault := parse.Print(l); fault != (api.Fault{}) || text != "rule a = never & (always + b);\nrule b = weekly mon,tue: 00:01-00:02;\n" {
		t.Errorf("Print is %q, %v", text, fault)
	}
	if !sameToTheSpareRoom(l, before) {
		t.Errorf("rules are %v, not %v, when they were printed", spare, before[:cap(before)])
	}
}
