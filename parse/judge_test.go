package parse_test

import (
	"math/rand"
	"strings"

	"slotrules/api"
	"slotrules/lex"
)

// moves: in which state which token leads to which one.
var moves = map[string]map[string]string{
	"rule":    {"rule": "name", "end": "end"},
	"name":    {"name": "is"},
	"is":      {"=": "thing"},
	"thing":   {"(": "thing", "never": "behind", "always": "behind", "name": "behind", "time": "dash", "weekly": "day", "dates": "date"},
	"dash":    {"-": "time"},
	"time":    {"time": "behind"},
	"day":     {"mon": "days", "tue": "days", "wed": "days", "thu": "days", "fri": "days", "sat": "days", "sun": "days"},
	"days":    {",": "day", ":": "thing"},
	"date":    {"date": "dates"},
	"dates":   {"..": "last", ":": "thing"},
	"last":    {"date": "colon"},
	"colon":   {":": "thing"},
	"behind":  {"shift": "by", "+": "thing", "-": "thing", "&": "thing", ")": "behind", ";": "rule"},
	"by":      {"-": "minutes", "number": "behind"},
	"minutes": {"number": "behind"},
}

// seen is how moves calls a token.
func seen(token api.Token) string {
	switch token.Kind {
	case api.TName:
		return "name"
	case api.TTime:
		return "time"
	case api.TDate:
		return "date"
	case api.TNumber:
		return "number"
	}
	return token.Text
}

// judge reads a text by states and stacks, as a reader of its own: values that wait for a sign, signs that wait for a value.
type judge struct {
	rules  []api.Rule
	values []api.Expr
	signs  []api.Expr // without their kids; of no kind: a bracket
	levels []int      // how deep things are ahead of each open bracket
	level  int        // how deep things are behind the last one
	deep   int        // how deep the next thing is
	nodes  int
	name   string
	head   api.Expr // what is being read, ahead of its end
	minus  bool
}

func judged(s string) ([]api.Rule, api.Fault) {
	tokens, fault := lex.Lex(s)
	if fault.Err != api.OK {
		return nil, fault
	}
	var j judge
	state := "rule"
	for _, token := range append(tokens, api.Token{At: len(s), Text: "end"}) {
		if err := j.check(state, token); err != api.OK {
			return nil, api.Fault{Err: err, At: token.At}
		}
		j.read(state, token)
		state = moves[state][seen(token)]
	}
	return j.rules, api.Fault{}
}

// check tells what is wrong when a token is met, and reduces what ends ahead of it.
func (j *judge) check(state string, token api.Token) api.Errno {
	sign := seen(token)
	ends := state == "behind" && sign != "shift"
	if ends {
		j.reduce(rank(sign))
	}
	whole := ends && rank(sign) == 0 && len(j.levels) == 0
	switch {
	case state == "name" && len(j.rules) == api.MaxRules:
		return api.ErrMany
	case state == "thing" && j.deep > api.MaxDeep, j.nodes > api.MaxNodes, whole && tall(j.values[0]) > api.MaxDeep:
		return api.ErrMuch
	case moves[state][sign] == "", sign == ")" && len(j.levels) == 0, sign == ";" && len(j.levels) > 0:
		return api.ErrForm
	case sign == "number" && (token.N < 1 || token.N >= api.Minutes), state == "time" && token.N <= j.head.A, state == "last" && token.N < j.head.A:
		return api.ErrRange
	}
	return api.OK
}

// rank is how tightly a sign holds what stands ahead of it; 0: it ends a sum.
func rank(sign string) int { return map[string]int{"+": 1, "-": 1, "&": 2}[sign] }

func rankOf(kind int) int {
	return map[int]int{api.EUnion: 1, api.EDiff: 1, api.EBoth: 2, api.EWeek: 3, api.EDates: 3}[kind]
}

func tall(e api.Expr) int {
	n := 0
	for _, kid := range e.Kids {
		n = max(n, tall(kid))
	}
	return n + 1
}

// reduce gives values to all signs that hold at least so tightly, back to the last bracket.
func (j *judge) reduce(least int) {
	for n := len(j.signs); n > 0 && j.signs[n-1].Kind != 0 && rankOf(j.signs[n-1].Kind) >= least; n-- {
		e := j.signs[n-1]
		kids := len(j.values) - 1
		if rankOf(e.Kind) < 3 {
			kids--
		}
		e.Kids = append([]api.Expr{}, j.values[kids:]...)
		j.values, j.signs = j.values[:kids], j.signs[:n-1]
		j.push(e)
	}
}

func (j *judge) push(e api.Expr) {
	j.values = append(j.values, e)
	j.nodes++
}

// read goes behind a token that is as it must be.
func (j *judge) read(state string, token api.Token) {
	switch state + " " + seen(token) {
	case "name name":
		*j = judge{rules: j.rules, name: token.Text, level: 1, deep: 1}
	case "thing (":
		j.signs, j.levels = append(j.signs, api.Expr{}), append(j.levels, j.level)
		j.level, j.deep = j.deep+1, j.deep+1
	case "behind )":
		n := len(j.levels) - 1
		j.level, j.levels, j.signs = j.levels[n], j.levels[:n], j.signs[:len(j.signs)-1]
	case "thing never":
		j.push(never())
	case "thing always":
		j.push(always())
	case "thing name":
		j.push(called(token.Text))
	case "thing weekly":
		j.head = api.Expr{Kind: api.EWeek}
	case "date date", "thing time":
		j.head = api.Expr{Kind: api.EDates, A: token.N, B: token.N}
	case "last date":
		j.head.B = token.N
	case "time time":
		j.push(span(j.head.A, token.N))
	case "days :", "dates :", "colon :":
		j.signs, j.deep = append(j.signs, j.head), j.deep+1
	case "behind shift", "by -":
		j.minus = state == "by"
	case "by number", "minutes number":
		kid := j.values[len(j.values)-1]
		j.values = j.values[:len(j.values)-1]
		by := token.N
		if j.minus {
			by = -by
		}
		j.push(shift(by, kid))
	case "behind +", "behind -", "behind &":
		kind := map[string]int{"+": api.EUnion, "-": api.EDiff, "&": api.EBoth}[token.Text]
		j.signs, j.deep = append(j.signs, api.Expr{Kind: kind}), j.level
	case "behind ;":
		j.rules = append(j.rules, rule(j.name, j.values[0]))
	}
	if state == "day" {
		j.head.A |= map[string]int{"mon": 1, "tue": 2, "wed": 4, "thu": 8, "fri": 16, "sat": 32, "sun": 64}[token.Text]
	}
}

// anyText makes a text that is right but for at most some tokens, or one of nearly as many rules, or as deep, or as many expressions, as may be.
func anyText(r *rand.Rand) string {
	rules, deep, wide := r.Intn(3), r.Intn(4), 3
	switch r.Intn(12) {
	case 0:
		rules, deep = api.MaxRules-1+r.Intn(3), 0
	case 1:
		rules, deep = 1, api.MaxDeep-12+r.Intn(14)
	case 2:
		rules, deep, wide = 1, 1, 40
	}
	var tokens []string
	for range rules {
		tokens = append(tokens, "rule", "a", "=")
		tokens = append(append(tokens, anySum(r, deep, wide)...), ";")
	}
	for range r.Intn(3) {
		tokens = spoilt(r, tokens)
	}
	return strings.Join(tokens, []string{" ", "\n", "\t ", " #b\n"}[r.Intn(4)]) + []string{"", " ", "#"}[r.Intn(3)]
}

func anySum(r *rand.Rand, deep, wide int) []string {
	out := anyFactor(r, deep, wide)
	for range r.Intn(wide) {
		// Of a deep text only one part is deep, so that it does not grow too long.
		if deep > 3 {
			deep = 1
		}
		out = append(append(out, []string{"+", "-", "&", "&", "&"}[r.Intn(5)]), anyFactor(r, deep, wide)...)
	}
	return out
}

func anyFactor(r *rand.Rand, deep, wide int) []string {
	out := anyThing(r, deep, wide)
	for range r.Intn(5) / 3 {
		out = append(out, "shift")
		if r.Intn(2) == 0 {
			out = append(out, "-")
		}
		out = append(out, []string{"1", "1439", "60"}[r.Intn(3)])
	}
	return out
}

func anyThing(r *rand.Rand, deep, wide int) []string {
	if deep == 0 {
		return [][]string{{"never"}, {"always"}, {"b"}, {"09:00", "-", "10:00"}, {"00:00", "-", "24:00"}, {"10:00", "-", "10:01"}}[r.Intn(6)]
	}
	switch r.Intn(5) {
	case 0:
		return append([]string{"weekly", "mon", ",", "sun", ":"}, anyFactor(r, deep-1, wide)...)
	case 1:
		return append([]string{"dates", "2026-01-01", ":"}, anyFactor(r, deep-1, wide)...)
	case 2:
		return append([]string{"dates", "2026-01-01", "..", "2026-01-01", ":"}, anyFactor(r, deep-1, wide)...)
	}
	return append(append([]string{"("}, anySum(r, deep-1, wide)...), ")")
}

// spoilt changes a token, leaves one out, lays one beside another, or cuts all behind one off.
func spoilt(r *rand.Rand, tokens []string) []string {
	others := []string{"rule", "a", "=", ";", "+", "-", "&", "(", ")", ",", ":", "..", "shift", "never", "always", "weekly", "dates", "mon", "sun", "09:00", "10:00", "2026-01-01", "2025-12-31", "5", "0", "1440", "$"}
	other := others[r.Intn(len(others))]
	if len(tokens) == 0 {
		return []string{other}
	}
	i := r.Intn(len(tokens))
	head, tail := append([]string{}, tokens[:i]...), tokens[i+1:]
	switch r.Intn(6) {
	case 0:
		return append(head, tail...)
	case 1:
		return append(append(head, tokens[i], other), tail...)
	case 2:
		return head
	case 3:
		other = alike(r, tokens[i])
	}
	return append(append(head, other), tail...)
}

// alike is another token of the same kind, if it is one with a number.
func alike(r *rand.Rand, token string) string {
	switch {
	case token[0] < '0' || token[0] > '9':
		return token
	case strings.Contains(token, ":"):
		return []string{"00:00", "09:00", "10:00", "24:00"}[r.Intn(4)]
	case strings.Contains(token, "-"):
		return []string{"2025-12-31", "2026-01-02", "2000-01-01"}[r.Intn(3)]
	}
	return []string{"0", "1440", "1439", "999999"}[r.Intn(4)]
}
