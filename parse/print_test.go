package parse_test

import (
	"math/rand"
	"strings"
	"testing"

	"slotrules/api"
	"slotrules/parse"
)

func prints(t *testing.T, want string, l ...api.Rule) {
	t.Helper()
	got, fault := parse.Print(l)
	if fault != (api.Fault{}) || got != want {
		t.Errorf("Print(%v) is %q, %v, not %q", l, got, fault, want)
	}
	if again, fault := parse.Parse(want); fault != (api.Fault{}) || !same(again, l) {
		t.Errorf("Parse(%q) is %v, %v, not %v", want, again, fault, l)
	}
}

func printsOne(t *testing.T, want string, e api.Expr) {
	t.Helper()
	prints(t, "rule a = "+want+";\n", rule("a", e))
}

func TestD4Lines(t *testing.T) {
	prints(t, "")
	prints(t, "rule a = never;\n", rule("a", never()))
	prints(t, "rule a = never;\nrule b_1 = always;\nrule a = a;\n", rule("a", never()), rule("b_1", always()), rule("a", called("a")))
}

func TestD4Things(t *testing.T) {
	printsOne(t, "never", never())
	printsOne(t, "always", always())
	printsOne(t, "monday_1", called("monday_1"))
	printsOne(t, "00:00-24:00", span(0, 1440))
	printsOne(t, "09:05-10:00", span(545, 600))
	printsOne(t, "23:59-24:00", span(1439, 1440))
	printsOne(t, "b shift 5", shift(5, called("b")))
	printsOne(t, "b shift -5", shift(-5, called("b")))
	printsOne(t, "b shift 1439", shift(1439, called("b")))
	printsOne(t, "b shift -1439", shift(-1439, called("b")))
	printsOne(t, "dates 2000-01-01: b", dates(0, 0, called("b")))
	printsOne(t, "dates 2000-01-01..2000-01-02: b", dates(0, 1, called("b")))
	printsOne(t, "dates 2026-11-15..2028-02-29: b", dates(9815, 10286, called("b")))
	printsOne(t, "dates 2000-01-01..2399-12-31: b", dates(0, api.MaxDays-1, called("b")))
}

func TestD4Days(t *testing.T) {
	for day, s := range []string{"mon", "tue", "wed", "thu", "fri", "sat", "sun"} {
		printsOne(t, "weekly "+s+": b", week(1<<day, called("b")))
	}
	printsOne(t, "weekly mon,sun: b", week(65, called("b")))
	printsOne(t, "weekly tue,wed,sat: b", week(38, called("b")))
	printsOne(t, "weekly mon,tue,wed,thu,fri,sat,sun: b", week(127, called("b")))
}

func TestD4Brackets(t *testing.T) {
	a, b, c := called("a"), called("b"), called("c")
	monday := func(e api.Expr) api.Expr { return week(1, e) }
	first := func(e api.Expr) api.Expr { return dates(0, 0, e) }
	// Sums.
	printsOne(t, "a + b - c", diff(union(a, b), c))
	printsOne(t, "a - b + c", union(diff(a, b), c))
	printsOne(t, "a + (b + c)", union(a, union(b, c)))
	printsOne(t, "a + (b - c)", union(a, diff(b, c)))
	printsOne(t, "a - (b + c)", diff(a, union(b, c)))
	printsOne(t, "a - (b - c)", diff(a, diff(b, c)))
	printsOne(t, "a & b + b & c", union(both(a, b), both(b, c)))
	printsOne(t, "a & b - b & c", diff(both(a, b), both(b, c)))
	printsOne(t, "a shift 5 + b shift 5", union(shift(5, a), shift(5, b)))
	printsOne(t, "weekly mon: a + dates 2000-01-01: b", union(monday(a), first(b)))
	printsOne(t, "dates 2000-01-01: a - weekly mon: b", diff(first(a), monday(b)))
	// Terms.
	printsOne(t, "a & b & c", both(both(a, b), c))
	printsOne(t, "a & (b & c)", both(a, both(b, c)))
	printsOne(t, "(a + b) & c", both(union(a, b), c))
	printsOne(t, "(a - b) & c", both(diff(a, b), c))
	printsOne(t, "a & (b + c)", both(a, union(b, c)))
	printsOne(t, "a & (b - c)", both(a, diff(b, c)))
	printsOne(t, "a shift 5 & b shift 5", both(shift(5, a), shift(5, b)))
	printsOne(t, "weekly mon: a & dates 2000-01-01: b", both(monday(a), first(b)))
	printsOne(t, "dates 2000-01-01: a & weekly mon: b", both(first(a), monday(b)))
	// Shifts.
	printsOne(t, "a shift 5 shift -6 shift 7", shift(7, shift(-6, shift(5, a))))
	printsOne(t, "(a + b) shift 5", shift(5, union(a, b)))
	printsOne(t, "(a - b) shift 5", shift(5, diff(a, b)))
	printsOne(t, "(a & b) shift 5", shift(5, both(a, b)))
	printsOne(t, "(weekly mon: a) shift 5", shift(5, monday(a)))
	printsOne(t, "(dates 2000-01-01: a) shift 5 shift 6", shift(6, shift(5, first(a))))
	printsOne(t, "00:00-00:01 shift -5 - never", diff(shift(-5, span(0, 1)), never()))
	// Behind a colon.
	for head, kid := range map[string]func(api.Expr) api.Expr{"weekly mon: ": monday, "dates 2000-01-01: ": first} {
		printsOne(t, head+"a shift 5", kid(shift(5, a)))
		printsOne(t, head+"(a + b)", kid(union(a, b)))
		printsOne(t, head+"(a - b)", kid(diff(a, b)))
		printsOne(t, head+"(a & b)", kid(both(a, b)))
		printsOne(t, head+"weekly mon: a", kid(monday(a)))
		printsOne(t, head+"dates 2000-01-01: a", kid(first(a)))
		printsOne(t, head+"(weekly mon: a) shift 5", kid(shift(5, monday(a))))
		printsOne(t, head+"(a & b) shift 5", kid(shift(5, both(a, b))))
		printsOne(t, head+"a + "+head+"b & c", union(kid(a), both(kid(b), c)))
	}
}

func TestD4OtherFieldsAreNotPrinted(t *testing.T) {
	e := api.Expr{Kind: api.EUnion, A: 7, B: 8, Name: "x", Kids: []api.Expr{
		{Kind: api.EName, A: 7, B: 8, Name: "b"},
		{Kind: api.EShift, A: 7, B: 8, Name: "x", Kids: []api.Expr{{Kind: api.ESpan, A: 7, B: 8, Name: "x", Kids: []api.Expr{}}}},
	}}
	if got, fault := parse.Print([]api.Rule{rule("a", e)}); fault != (api.Fault{}) || got != "rule a = b + 00:07-00:08 shift 7;\n" {
		t.Errorf("Print is %q, %v", got, fault)
	}
}

// withoutPair leaves the bracket at i out, and the one that closes it.
func withoutPair(s string, i int) string {
	open := 0
	for j := i; ; j++ {
		switch s[j] {
		case '(':
			open++
		case ')':
			open--
		}
		if open == 0 {
			return s[:i] + s[i+1:j] + s[j+1:]
		}
	}
}

func TestD4ManyAreParsedAgain(t *testing.T) {
	r := rand.New(rand.NewSource(9))
	brackets := 0
	for range 4000 {
		l := make([]api.Rule, r.Intn(4))
		for i := range l {
			l[i] = rule("a", anyExpr(r, 1+r.Intn(6)))
		}
		text, fault := parse.Print(l)
		if fault != (api.Fault{}) {
			t.Fatalf("Print(%v) is %v", l, fault)
		}
		prints(t, text, l...)
		for i := range text {
			if text[i] != '(' {
				continue
			}
			brackets++
			less := withoutPair(text, i)
			if got, fault := parse.Parse(less); fault == (api.Fault{}) && same(got, l) {
				t.Fatalf("%q needs no bracket at %d", text, i)
			}
		}
	}
	if brackets < 1000 {
		t.Errorf("there were %d brackets only", brackets)
	}
}

// As deep as may be, whatever brackets it needs: what is printed is parsed.
func TestD4DeepOnesAreParsedAgain(t *testing.T) {
	a := called("a")
	steps := []func(api.Expr) api.Expr{
		func(e api.Expr) api.Expr { return union(a, e) },
		func(e api.Expr) api.Expr { return diff(e, a) },
		func(e api.Expr) api.Expr { return both(a, e) },
		func(e api.Expr) api.Expr { return both(e, a) },
		func(e api.Expr) api.Expr { return shift(-1, e) },
		func(e api.Expr) api.Expr { return week(1, e) },
		func(e api.Expr) api.Expr { return dates(0, 1, e) },
	}
	r := rand.New(rand.NewSource(10))
	for range 3000 {
		chosen := []int{r.Intn(len(steps)), r.Intn(len(steps)), r.Intn(len(steps))}
		e := never()
		for i := range api.MaxDeep - 1 {
			e = steps[chosen[i%len(chosen)]](e)
		}
		text, fault := parse.Print([]api.Rule{rule("a", e)})
		if fault != (api.Fault{}) {
			t.Fatalf("Print(%v) is %v", e, fault)
		}
		prints(t, text, rule("a", e))
	}
	prints(t, "rule a = "+strings.Repeat("never - (", api.MaxDeep-2)+"never - never"+strings.Repeat(")", api.MaxDeep-2)+";\n", rule("a", nested(api.MaxDeep-1)))
}

func nested(n int) api.Expr {
	e := never()
	for range n {
		e = diff(never(), e)
	}
	return e
}

// ofLength is rules whose text has so many bytes, 250 at least.
func ofLength(length int) []api.Rule {
	var l []api.Rule
	for ; length >= 500; length -= 250 {
		l = append(l, ruleOfLength(250))
	}
	return append(l, ruleOfLength(length))
}

// ruleOfLength makes `rule n = x + x + ..;`, a line of so many bytes.
func ruleOfLength(length int) api.Rule {
	rest := length - len("rule n = x;\n")
	e := called("x")
	for ; rest >= 30; rest -= 15 {
		e = union(e, called(strings.Repeat("y", 12)))
	}
	if rest >= 4 {
		e = union(e, called(strings.Repeat("z", min(rest-3, api.MaxWord))))
		rest -= min(rest, 3+api.MaxWord)
	}
	return rule("n"+strings.Repeat("n", rest), e)
}

func TestD4LongTexts(t *testing.T) {
	text, fault := parse.Print(ofLength(api.MaxText))
	if fault != (api.Fault{}) || len(text) != api.MaxText {
		t.Fatalf("a text of MaxText bytes has %d, %v", len(text), fault)
	}
	prints(t, text, ofLength(api.MaxText)...)
	wrongText := func(l []api.Rule) {
		t.Helper()
		if text, fault := parse.Print(l); fault != (api.Fault{Err: api.ErrMuch}) || text != "" {
			t.Errorf("a text that is too long is %q, %v", text, fault)
		}
		right(t, l)
	}
	wrongText(ofLength(api.MaxText + 1))
	wrongText(ofLength(api.MaxText + 250))
	var most []api.Rule
	for range api.MaxRules {
		most = append(most, rule("a", full(api.MaxNodes)))
	}
	wrongText(most)
	// What is wrong comes ahead of what is too long.
	wrong(t, append(ofLength(api.MaxText+250), rule("?", never())), api.ErrName, len(ofLength(api.MaxText+250)))
}

func TestD4ParsedAndTooLongToPrint(t *testing.T) {
	term := "a" + strings.Repeat("&a", 36)
	s := strings.Repeat("rule a="+term+"+"+term+"+"+term+";", 25)
	l, fault := parse.Parse(s)
	if fault != (api.Fault{}) || len(l) != 25 {
		t.Fatalf("Parse(%q) is %v, %v", s, l, fault)
	}
	if text, fault := parse.Print(l); fault != (api.Fault{Err: api.ErrMuch}) || text != "" {
		t.Errorf("Print is %q, %v", text, fault)
	}
}
