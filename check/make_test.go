package check_test

import (
	"math/rand"
	"strings"
	"testing"

	"slotrules/api"
	"slotrules/parse"
)

// text parses rules.
func text(t *testing.T, s string) []api.Rule {
	t.Helper()
	l, fault := parse.Parse(s)
	if fault != (api.Fault{}) {
		t.Fatalf("Parse(%q) is %v", s, fault)
	}
	return l
}

func never() api.Expr          { return api.Expr{Kind: api.ENever} }
func called(s string) api.Expr { return api.Expr{Kind: api.EName, Name: s} }

func pair(kind int, a, b api.Expr) api.Expr {
	return api.Expr{Kind: kind, Kids: []api.Expr{a, b}}
}

func shift(by int, kid api.Expr) api.Expr {
	return api.Expr{Kind: api.EShift, A: by, Kids: []api.Expr{kid}}
}

func rule(name string, e api.Expr) api.Rule { return api.Rule{Name: name, Expr: e} }

// nameOf is a name for each number of a rule, in no order of its own.
func nameOf(i int) string {
	return string([]byte{byte('a' + i*7%26), byte('z' - i*11%26), '_'}) + strings.Repeat("x", i%5)
}

// row is so many rules that each speak of the next one; the last one speaks of none.
func row(n int) []api.Rule {
	l := make([]api.Rule, n)
	for i := range l {
		l[i] = rule(nameOf(i), called(nameOf(i+1)))
	}
	l[n-1].Expr = never()
	return l
}

// ring is so many rules that each speak of the next one, and the last one of the first.
func ring(n int) []api.Rule {
	l := row(n)
	l[n-1].Expr = called(nameOf(0))
	return l
}

// anySpeaks is of whom each of so many rules speaks; half of these webs go one way only, so that no rule refers to itself.
func anySpeaks(r *rand.Rand, n int) [][]int {
	speaks, order, oneWay := make([][]int, n), r.Perm(n), r.Intn(2) == 0
	for i := range speaks {
		for j := range n {
			if r.Intn(n+1) < 2 && (!oneWay || order[i] < order[j]) {
				speaks[i] = append(speaks[i], j)
			}
		}
	}
	return speaks
}

// web is rules that speak of those that are told for each, in expressions of all kinds.
func web(r *rand.Rand, speaks [][]int) []api.Rule {
	l := make([]api.Rule, len(speaks))
	for i, list := range speaks {
		var parts []api.Expr
		for _, next := range list {
			for range 1 + r.Intn(2) {
				parts = append(parts, called(nameOf(next)))
			}
		}
		r.Shuffle(len(parts), func(i, j int) { parts[i], parts[j] = parts[j], parts[i] })
		l[i] = rule(nameOf(i), joined(r, parts))
	}
	return l
}

// joined is one expression that has all of these, and no other names.
func joined(r *rand.Rand, parts []api.Expr) api.Expr {
	if len(parts) == 0 {
		// What stands in a field that a kind has not is no name.
		parts = []api.Expr{{Kind: api.EAlways, Name: nameOf(r.Intn(5))}}
	}
	if len(parts) > 1 {
		left := 1 + r.Intn(len(parts)-1)
		e := pair(api.EUnion+r.Intn(3), joined(r, parts[:left]), joined(r, parts[left:]))
		e.Name = nameOf(r.Intn(5))
		return e
	}
	e := parts[0]
	switch r.Intn(8) {
	case 0:
		return shift(5, e)
	case 1:
		return api.Expr{Kind: api.EWeek, A: 3, Name: "zz", Kids: []api.Expr{e}}
	case 2:
		return api.Expr{Kind: api.EDates, A: 3, B: 4, Kids: []api.Expr{e}}
	case 3:
		return pair(api.EDiff, api.Expr{Kind: api.ESpan, A: 5, B: 7, Name: "zz"}, e)
	}
	return e
}

// closed is which rule refers to which, by ways of any length: what Warshall's three loops find.
func closed(speaks [][]int) [][]bool {
	n := len(speaks)
	out := make([][]bool, n)
	for i := range out {
		out[i] = make([]bool, n)
		for _, next := range speaks[i] {
			out[i][next] = true
		}
	}
	for k := range n {
		for i := range n {
			for j := range n {
				out[i][j] = out[i][j] || out[i][k] && out[k][j]
			}
		}
	}
	return out
}
