package parse_test

import (
	"math/rand"
	"strings"
	"testing"
	"time"

	"slotrules/api"
	"slotrules/parse"
)

// date writes a day by the library's calendar, not by the project's.
func date(day int) string {
	return time.Date(2000, 1, 1+day, 0, 0, 0, 0, time.UTC).Format("2006-01-02")
}

func reads(t *testing.T, s string, want ...api.Rule) {
	t.Helper()
	got, fault := parse.Parse(s)
	if fault != (api.Fault{}) || !same(got, want) {
		t.Errorf("Parse(%q) is %v, %v, not %v", s, got, fault, want)
	}
}

// readsOne reads the expression of one rule.
func readsOne(t *testing.T, s string, want api.Expr) {
	t.Helper()
	reads(t, "rule a = "+s+";", rule("a", want))
}

// fails asks for an error at the place that is marked by ^.
func fails(t *testing.T, marked string, err api.Errno) {
	t.Helper()
	at := strings.IndexByte(marked, '^')
	s := marked[:at] + marked[at+1:]
	got, fault := parse.Parse(s)
	if fault != (api.Fault{Err: err, At: at}) || len(got) != 0 {
		t.Errorf("Parse(%q) is %v, %v, not error %d at %d", s, got, fault, err, at)
	}
}

func TestD1Texts(t *testing.T) {
	reads(t, "")
	reads(t, " \t\n# nothing")
	reads(t, "rule a = never;", rule("a", never()))
	reads(t, "rule a=never;rule b=a;", rule("a", never()), rule("b", called("a")))
	reads(t, "rule a = a; rule a = a;", rule("a", called("a")), rule("a", called("a")))
	reads(t, `# when a desk is open
rule early = weekly mon,tue,wed: 08:00-12:00;
rule late = weekly thu,fri: 13:00-20:00 shift -30
	+ dates 2026-12-24: 09:00-11:00;	# Christmas Eve
rule pause = 10:00-10:15 shift 60;
rule open = (early + late) - pause & always - dates 2026-12-25..2026-12-26: always;
rule closed = never`+"\n;",
		rule("early", week(7, span(480, 720))),
		rule("late", union(week(24, shift(-30, span(780, 1200))), dates(9854, 9854, span(540, 660)))),
		rule("pause", shift(60, span(600, 615))),
		rule("open", diff(diff(union(called("early"), called("late")), both(called("pause"), always())), dates(9855, 9856, always()))),
		rule("closed", never()))
}

func TestD1Things(t *testing.T) {
	readsOne(t, "never", never())
	readsOne(t, "always", always())
	readsOne(t, "b", called("b"))
	readsOne(t, "monday_1", called("monday_1"))
	readsOne(t, "00:00-24:00", span(0, 1440))
	readsOne(t, "00:00-00:01", span(0, 1))
	readsOne(t, "23:59 - 24:00", span(1439, 1440))
	readsOne(t, "(b)", called("b"))
	readsOne(t, "(((b)))", called("b"))
	readsOne(t, "weekly mon: b", week(1, called("b")))
	readsOne(t, "dates 2000-01-01: b", dates(0, 0, called("b")))
	readsOne(t, "dates 2026-11-15: b", dates(9815, 9815, called("b")))
	readsOne(t, "dates 2026-11-15..2026-11-15: b", dates(9815, 9815, called("b")))
	readsOne(t, "dates 2026-11-15 .. 2026-11-16: b", dates(9815, 9816, called("b")))
	readsOne(t, "dates 2000-01-01..2399-12-31: b", dates(0, api.MaxDays-1, called("b")))
}

func TestD1Days(t *testing.T) {
	for day, s := range []string{"mon", "tue", "wed", "thu", "fri", "sat", "sun"} {
		readsOne(t, "weekly "+s+": b", week(1<<day, called("b")))
		readsOne(t, "weekly "+s+","+s+": b", week(1<<day, called("b")))
	}
	readsOne(t, "weekly sun,mon: b", week(65, called("b")))
	readsOne(t, "weekly mon,sun,mon,wed: b", week(69, called("b")))
	readsOne(t, "weekly mon,tue,wed,thu,fri,sat,sun: b", week(127, called("b")))
}

func TestD1FromTheLeft(t *testing.T) {
	a, b, c, d := called("a"), called("b"), called("c"), called("d")
	readsOne(t, "a + b", union(a, b))
	readsOne(t, "a - b", diff(a, b))
	readsOne(t, "a & b", both(a, b))
	readsOne(t, "a + b + c", union(union(a, b), c))
	readsOne(t, "a - b - c", diff(diff(a, b), c))
	readsOne(t, "a - b + c", union(diff(a, b), c))
	readsOne(t, "a + b - c", diff(union(a, b), c))
	readsOne(t, "a & b & c", both(both(a, b), c))
	readsOne(t, "a & b & c & d", both(both(both(a, b), c), d))
	readsOne(t, "a + b & c", union(a, both(b, c)))
	readsOne(t, "a & b + c", union(both(a, b), c))
	readsOne(t, "a & b - c & d", diff(both(a, b), both(c, d)))
	readsOne(t, "a + b & c - d", diff(union(a, both(b, c)), d))
	readsOne(t, "(a + b) & c", both(union(a, b), c))
	readsOne(t, "a & (b - c)", both(a, diff(b, c)))
	readsOne(t, "a - (b - c)", diff(a, diff(b, c)))
	readsOne(t, "a & (b & c)", both(a, both(b, c)))
	readsOne(t, "(a + b) + (c + d)", union(union(a, b), union(c, d)))
	readsOne(t, "09:00-10:00-11:00-12:00", diff(span(540, 600), span(660, 720)))
}

func TestD1Shifts(t *testing.T) {
	a, b := called("a"), called("b")
	readsOne(t, "a shift 5", shift(5, a))
	readsOne(t, "a shift -5", shift(-5, a))
	readsOne(t, "a shift - 5", shift(-5, a))
	readsOne(t, "a shift 005", shift(5, a))
	readsOne(t, "a shift 1", shift(1, a))
	readsOne(t, "a shift -1", shift(-1, a))
	readsOne(t, "a shift 1439", shift(api.Minutes-1, a))
	readsOne(t, "a shift -1439", shift(1-api.Minutes, a))
	readsOne(t, "a shift 5 shift -6 shift 7", shift(7, shift(-6, shift(5, a))))
	readsOne(t, "a shift 5 - b", diff(shift(5, a), b))
	readsOne(t, "a + b shift 5", union(a, shift(5, b)))
	readsOne(t, "a & b shift 5", both(a, shift(5, b)))
	readsOne(t, "a shift 5 & b", both(shift(5, a), b))
	readsOne(t, "(a + b) shift 5", shift(5, union(a, b)))
	readsOne(t, "(a & b) shift 5", shift(5, both(a, b)))
	readsOne(t, "09:00-10:00 shift 5", shift(5, span(540, 600)))
}

func TestD1FactorsBehindColons(t *testing.T) {
	b, c := called("b"), called("c")
	for head, kid := range map[string]func(api.Expr) api.Expr{
		"weekly mon: ":                    func(e api.Expr) api.Expr { return week(1, e) },
		"dates 2000-01-02: ":              func(e api.Expr) api.Expr { return dates(1, 1, e) },
		"dates 2000-01-02..2000-01-03:":   func(e api.Expr) api.Expr { return dates(1, 2, e) },
		"weekly sun: dates 2000-01-02: ":  func(e api.Expr) api.Expr { return week(64, dates(1, 1, e)) },
		"dates 2000-01-02: weekly sun: ":  func(e api.Expr) api.Expr { return dates(1, 1, week(64, e)) },
		"weekly sun: weekly sat: ":        func(e api.Expr) api.Expr { return week(64, week(32, e)) },
		"( weekly sun : ( weekly sat : (": func(e api.Expr) api.Expr { return week(64, week(32, e)) },
	} {
		tail := strings.Repeat(")", strings.Count(head, "("))
		readsOne(t, head+"b"+tail, kid(b))
		readsOne(t, head+"b shift 5"+tail, kid(shift(5, b)))
		readsOne(t, head+"(b + c)"+tail, kid(union(b, c)))
		readsOne(t, head+"(b & c) shift 5"+tail, kid(shift(5, both(b, c))))
		if tail == "" {
			readsOne(t, head+"b + c", union(kid(b), c))
			readsOne(t, head+"b - c", diff(kid(b), c))
			readsOne(t, head+"b & c", both(kid(b), c))
			readsOne(t, head+"b & "+head+"c shift 5", both(kid(b), kid(shift(5, c))))
			readsOne(t, "("+head+"b) shift 5", shift(5, kid(b)))
		}
	}
}

func TestD1ManyInBrackets(t *testing.T) {
	r := rand.New(rand.NewSource(4))
	for range 3000 {
		e := anyExpr(r, 1+r.Intn(5))
		readsOne(t, inBrackets(e), e)
	}
}

func TestD2LexFirst(t *testing.T) {
	fails(t, "rule a = ^$;", api.ErrForm)
	fails(t, "rule rule rule ^A", api.ErrForm)
	fails(t, "; ^24:01", api.ErrRange)
	fails(t, "rule a = b shift 0; ^2026-02-29", api.ErrRange)
	fails(t, "; ^"+strings.Repeat("a", api.MaxWord+1), api.ErrName)
	fails(t, "rule a = b shift ^1000000;", api.ErrRange)
	fails(t, "^;"+strings.Repeat(" ", api.MaxText), api.ErrMuch)
	reads(t, "rule a = never;"+strings.Repeat(" ", api.MaxText-15), rule("a", never()))
}

func TestD2Form(t *testing.T) {
	for _, s := range []string{
		"^a", "^;", "^never", "^=", "^1", "^09:00-10:00", "^2026-01-01", "^mon", "^)",
		"rule ^rule = a;", "rule ^never = a;", "rule ^mon = a;", "rule ^= a;", "rule ^1 = a;", "rule ^09:00 = a;", "rule ^;",
		"rule a ^a;", "rule a ^;", "rule a ^: a;", "rule a = ^= a;", "rule a ^- a;",
		"rule a = ^;", "rule a = ^+ b;", "rule a = ^- b;", "rule a = ^& b;", "rule a = ^rule;", "rule a = ^mon;", "rule a = ^shift 5;", "rule a = ^5;", "rule a = ^2026-01-01;", "rule a = ^..;", "rule a = ^, b;", "rule a = ^: b;", "rule a = ^);",
		"rule a = b ^c;", "rule a = b ^never;", "rule a = b ^rule c = d;", "rule a = b ^= c;", "rule a = b ^, c;", "rule a = b ^(c);", "rule a = b^);", "rule a = b ^5;", "rule a = b ^.. c;", "rule a = b ^09:00-10:00;", "rule a = b ^: c;", "rule a = never ^always;",
		"rule a = b +^;", "rule a = b -^;", "rule a = b &^;", "rule a = b + ^+ c;", "rule a = b & ^- c;", "rule a = b - ^- c;", "rule a = b + c ^d;", "rule a = b & c ^d;", "rule a = b & ^shift 5;",
		"rule a = (^);", "rule a = (b^;", "rule a = (b ^c);", "rule a = ((b)^;", "rule a = (b)^);", "rule a = (b + ^);", "rule a = (b) ^(c);", "rule a = (b) ^c;",
		"rule a = b shift^;", "rule a = b shift ^c;", "rule a = b shift ^+ 5;", "rule a = b shift - ^- 5;", "rule a = b shift -^;", "rule a = b shift ^09:00;", "rule a = b shift ^(5);", "rule a = b shift 5 ^5;", "rule a = b shift 5 ^c;", "rule a = b shift - ^c;", "rule a = b shift ^shift 5;",
		"rule a = weekly^: b;", "rule a = weekly ^shift: b;", "rule a = weekly ^never: b;", "rule a = weekly ^b: c;", "rule a = weekly ^monday: c;", "rule a = weekly ^1: c;", "rule a = weekly ^, mon: c;", "rule a = weekly mon ^b;", "rule a = weekly mon ^tue: b;", "rule a = weekly mon,^: b;", "rule a = weekly mon,^,tue: b;", "rule a = weekly mon ^..tue: b;", "rule a = weekly mon^;", "rule a = weekly mon: ^;", "rule a = weekly mon: ^+ b;", "rule a = weekly mon: b ^: c;", "rule a = weekly ^(mon): c;", "rule a = weekly ^2026-01-01: c;",
		"rule a = dates ^b;", "rule a = dates ^: b;", "rule a = dates ^mon: b;", "rule a = dates ^..2026-01-01: b;", "rule a = dates 2026-01-01 ^b;", "rule a = dates 2026-01-01^;", "rule a = dates 2026-01-01 ^, 2026-01-02: b;", "rule a = dates 2026-01-01 ^- 2026-01-02: b;", "rule a = dates 2026-01-02.. ^: b;", "rule a = dates 2026-01-02..^mon: b;", "rule a = dates 2026-01-02..2026-01-03^..2026-01-04: b;", "rule a = dates 2026-01-02..2026-01-03 ^b;", "rule a = dates 2026-01-01: ^;", "rule a = dates ^2026: b;",
		"rule a = 10:00^;", "rule a = 10:00 ^+ 11:00;", "rule a = 10:00 ^11:00;", "rule a = 10:00 ^..11:00;", "rule a = 10:00-^;", "rule a = 10:00-^b;", "rule a = 10:00-^11;", "rule a = 10:00-^-11:00;", "rule a = 10:00-^(11:00);", "rule a = 10:00-11:00-^;", "rule a = 10:00-11:00-12:00^;", "rule a = 10:00 ^shift 5;",
		"rule a = b;^;", "rule a = b; ^a;", "rule a = b; ^)", "rule a = b; rule ^;",
	} {
		fails(t, s, api.ErrForm)
	}
}

func TestD2AtTheEnd(t *testing.T) {
	for _, s := range []string{
		"rule", "rule a", "rule a =", "rule a = b", "rule a = (", "rule a = (b", "rule a = b +", "rule a = b -", "rule a = b &",
		"rule a = b shift", "rule a = b shift -", "rule a = b shift 5", "rule a = weekly", "rule a = weekly mon", "rule a = weekly mon,",
		"rule a = weekly mon:", "rule a = dates", "rule a = dates 2026-01-01", "rule a = dates 2026-01-01..", "rule a = dates 2026-01-01..2026-01-01",
		"rule a = dates 2026-01-01:", "rule a = 09:00", "rule a = 09:00-", "rule a = 09:00-10:00", "rule a = b; rule",
	} {
		fails(t, s+"^", api.ErrForm)
		fails(t, s+" \t\n # the end\n ^", api.ErrForm)
	}
}

func TestD2Range(t *testing.T) {
	for _, s := range []string{
		"rule a = b shift ^0;", "rule a = b shift -^0;", "rule a = b shift ^000;", "rule a = b shift ^1440;", "rule a = b shift -^1440;", "rule a = b shift ^999999;", "rule a = b shift - ^999999;", "rule a = b shift 5 shift ^0;", "rule a = weekly mon: b shift ^0;",
		"rule a = dates 2026-01-02..^2026-01-01: b;", "rule a = dates 2399-12-31..^2000-01-01: b;", "rule a = dates 2026-01-02..^2026-01-01 +",
		"rule a = 10:00-^10:00;", "rule a = 10:00 - ^09:59;", "rule a = 24:00-^24:00;", "rule a = 24:00-^00:00;", "rule a = 00:00-^00:00;", "rule a = 09:00-10:00 - 11:00-^10:00;", "rule a = 10:00-^10:00",
		"rule a = b shift ^0 rule", "rule a = b shift ^1440",
	} {
		fails(t, s, api.ErrRange)
	}
}

func TestD2FirstFromTheLeft(t *testing.T) {
	fails(t, "rule a = b shift ^0 c; rule rule", api.ErrRange)
	fails(t, "rule a = b ^c shift 0;", api.ErrForm)
	fails(t, "rule a = 10:00-^09:00 shift 0 shift 2000;", api.ErrRange)
	fails(t, "rule a = 10:00 ^10:00-10:00;", api.ErrForm)
	fails(t, strings.Repeat("rule a = b;", api.MaxRules-1)+"rule ^;", api.ErrForm)
	fails(t, strings.Repeat("rule a = b;", api.MaxRules-1)+"rule a = b ^c; rule", api.ErrForm)
	fails(t, "rule a = "+strings.Repeat("(", api.MaxDeep-1)+"never ^never;", api.ErrForm)
}

func TestD2ManyRules(t *testing.T) {
	most := strings.Repeat("rule a = b;", api.MaxRules)
	got, fault := parse.Parse(most)
	if fault != (api.Fault{}) || len(got) != api.MaxRules {
		t.Errorf("MaxRules rules are %d, %v", len(got), fault)
	}
	fails(t, most+"rule ^a = b;", api.ErrMany)
	fails(t, most+"rule # one more\n ^a", api.ErrMany)
	fails(t, most+"^a", api.ErrForm)
	fails(t, most+"^;", api.ErrForm)
	// Behind `rule` is ahead of the token that follows it, whatever that is.
	fails(t, most+"rule ^rule = b;", api.ErrMany)
	fails(t, most+"rule^", api.ErrMany)
}

func TestD2DeepThings(t *testing.T) {
	brackets := func(n int, s string) string { return strings.Repeat("(", n) + s + strings.Repeat(")", n) }
	colons := func(n int, s string) string { return strings.Repeat("weekly mon: ", n) + s }
	readsOne(t, brackets(api.MaxDeep-1, "never"), never())
	fails(t, "rule a = "+brackets(api.MaxDeep, "^never")+";", api.ErrMuch)
	fails(t, "rule a = "+brackets(api.MaxDeep, "^(never)")+";", api.ErrMuch)

	deep := called("b")
	for range api.MaxDeep - 1 {
		deep = week(1, deep)
	}
	readsOne(t, colons(api.MaxDeep-1, "b"), deep)
	fails(t, "rule a = "+colons(api.MaxDeep, "^b")+";", api.ErrMuch)
	fails(t, "rule a = "+colons(api.MaxDeep, "^weekly tue: b")+";", api.ErrMuch)
	fails(t, "rule a = "+strings.Repeat("dates 2026-01-01: ", api.MaxDeep)+"^b;", api.ErrMuch)

	// The brackets are one deeper than what stands behind the colon.
	readsOne(t, "weekly mon: ("+brackets(api.MaxDeep-3, "b")+")", week(1, called("b")))
	fails(t, "rule a = weekly mon: ("+brackets(api.MaxDeep-2, "^b")+");", api.ErrMuch)
	// Behind brackets, and behind a factor that stands behind a colon, all is as it was ahead of them.
	readsOne(t, brackets(api.MaxDeep-1, "b")+" & "+brackets(api.MaxDeep-1, "b"), both(called("b"), called("b")))
	readsOne(t, "weekly mon: b + "+brackets(api.MaxDeep-1, "b"), union(week(1, called("b")), called("b")))
	fails(t, "rule a = b & "+brackets(api.MaxDeep-1, "b")+" & "+brackets(api.MaxDeep, "^b")+";", api.ErrMuch)
	reads(t, "rule a = "+brackets(api.MaxDeep-1, "b")+";rule b = "+brackets(api.MaxDeep-1, "b")+";", rule("a", called("b")), rule("b", called("b")))
}

func TestD2DeepWhereAThingShouldBegin(t *testing.T) {
	open := "rule a = " + strings.Repeat("(", api.MaxDeep)
	for _, s := range []string{"^", "^)", "^;", "^+", "^5", "^rule", "^mon", "^09:00", "^..", " \n^"} {
		fails(t, open+s, api.ErrMuch)
	}
	fails(t, open[:len(open)-1]+"^)", api.ErrForm)
	fails(t, open[:len(open)-1]+"^", api.ErrForm)
	fails(t, "rule a = "+strings.Repeat("weekly mon: ", api.MaxDeep)+"^;", api.ErrMuch)
	fails(t, "rule a = "+strings.Repeat("(", api.MaxDeep-1)+"b + (^+", api.ErrMuch)
}

func TestD2DeepExpressions(t *testing.T) {
	for sign, kind := range map[string]int{" + ": api.EUnion, " - ": api.EDiff, " & ": api.EBoth} {
		deep := called("b")
		text := "b"
		for range api.MaxDeep - 1 {
			deep = pair(kind, deep, called("c"))
			text += sign + "c"
		}
		readsOne(t, text, deep)
		fails(t, "rule a = "+text+sign+"c ^;", api.ErrMuch)
		fails(t, "rule a = b + ("+text+") ^;", api.ErrMuch)
		fails(t, "rule a = b & ("+text+") & c ^;", api.ErrMuch)
		fails(t, "rule a = weekly mon: ("+text+") - b ^;", api.ErrMuch)
		fails(t, "rule a = ("+text+") shift 1 ^; rule a = 0;", api.ErrMuch)
		// Only the whole sum is looked at: what is wrong ahead of its end comes first.
		fails(t, "rule a = b + ("+text+") + 10:00-^10:00;", api.ErrRange)
		fails(t, "rule a = (b + ("+text+") ^;", api.ErrForm)
		fails(t, "rule a = ("+text+sign+"c) + ^;", api.ErrForm)
	}
	minute := " shift 1"
	readsOne(t, "b"+strings.Repeat(minute, api.MaxDeep-1), shifts(api.MaxDeep-1, called("b")))
	fails(t, "rule a = b"+strings.Repeat(minute, api.MaxDeep)+"^;", api.ErrMuch)
	readsOne(t, "c + b"+strings.Repeat(minute, api.MaxDeep-2), union(called("c"), shifts(api.MaxDeep-2, called("b"))))
	fails(t, "rule a = c + b"+strings.Repeat(minute, api.MaxDeep-1)+"^;", api.ErrMuch)
	readsOne(t, "weekly mon: b"+strings.Repeat(minute, api.MaxDeep-2), week(1, shifts(api.MaxDeep-2, called("b"))))
	fails(t, "rule a = weekly mon: b"+strings.Repeat(minute, api.MaxDeep-1)+"^;", api.ErrMuch)
	// Brackets are no expression.
	readsOne(t, "((b"+strings.Repeat(minute, api.MaxDeep-1)+"))", shifts(api.MaxDeep-1, called("b")))
	// Ahead of `;` is ahead of what stands there instead.
	fails(t, "rule a = b"+strings.Repeat(minute, api.MaxDeep)+" ^rule", api.ErrMuch)
	fails(t, "rule a = b"+strings.Repeat(minute, api.MaxDeep)+"^", api.ErrMuch)
}

func TestD2DeepByBracketsAndExpressions(t *testing.T) {
	text, deep := "b", called("b")
	for range api.MaxDeep - 2 {
		text, deep = "b - ("+text+")", diff(called("b"), deep)
	}
	text, deep = "never - ("+text+")", diff(never(), deep)
	readsOne(t, text, deep)
	fails(t, "rule a = b - ("+strings.Replace(text, "(b)", "(^b)", 1)+");", api.ErrMuch)
}

func TestD2ManyExpressions(t *testing.T) {
	// 15 terms of 39 expressions each, and 14 sums.
	term := "a" + strings.Repeat("&a", 19)
	text := "rule a = " + term + strings.Repeat("+"+term, 14)
	got, fault := parse.Parse(text + ";")
	if fault != (api.Fault{}) || len(got) != 1 || nodesOf(got[0].Expr) != api.MaxNodes-1 {
		t.Fatalf("MaxNodes less 1 are %v, %v", got, fault)
	}
	got, fault = parse.Parse(text + " shift 5;" + text + " shift 5;")
	if fault != (api.Fault{}) || len(got) != 2 || nodesOf(got[0].Expr) != api.MaxNodes || nodesOf(got[1].Expr) != api.MaxNodes {
		t.Errorf("MaxNodes of two rules each are %v, %v", got, fault)
	}
	for _, tail := range []string{
		"+b ^;", "+b ^+c;", "+b shift 5 ^;", "+b&c ^;", "+b&c ^&d;", "+(b&c ^);", "+(b) ^;", "&b ^;",
		"+never ^;", "+(never&always ^)", "+b&09:00-10:00 ^;", "+weekly mon: b ^;", "+dates 2026-01-01: b ^+c;", " shift 5 shift 6 ^;",
		// Behind an expression's end is ahead of the token that follows it, whatever that is.
		"+b ^)", "+b ^rule", "+b ^", "+b&c ^c", "+b&never ^never", "+b&c ^shift 0;",
	} {
		fails(t, text+tail, api.ErrMuch)
	}
	fails(t, "rule b = never;"+text+"+b ^;", api.ErrMuch)
	fails(t, text+"+b shift ^0;", api.ErrRange)
	fails(t, text+"+10:00-^10:00;", api.ErrRange)
	fails(t, text+" shift 5 + ^6;", api.ErrForm)
}

func TestD2ManyTextsByAnotherReader(t *testing.T) {
	r := rand.New(rand.NewSource(7))
	faults := map[api.Errno]int{}
	for range 15000 {
		s := anyText(r)
		want, wantFault := judged(s)
		got, fault := parse.Parse(s)
		if fault != wantFault || !same(got, want) {
			t.Fatalf("Parse(%q) is %v, %v, not %v, %v", s, got, fault, want, wantFault)
		}
		faults[fault.Err]++
	}
	for _, err := range []api.Errno{api.OK, api.ErrForm, api.ErrRange, api.ErrMuch, api.ErrMany} {
		if faults[err] < 100 {
			t.Errorf("error %d came %d times only", err, faults[err])
		}
	}
}

func TestZ1ParseOfAnything(t *testing.T) {
	r := rand.New(rand.NewSource(8))
	bytes := "rule a=b;:+-&(),.#09 \n\x00\xffA"
	for range 20000 {
		b := make([]byte, r.Intn(60))
		for i := range b {
			b[i] = bytes[r.Intn(len(bytes))]
		}
		got, fault := parse.Parse(string(b))
		if fault.At < 0 || fault.At > len(b) || fault.Err != api.OK && len(got) != 0 {
			t.Fatalf("Parse(%q) is %v, %v", b, got, fault)
		}
	}
	long := strings.Repeat("(", api.MaxText)
	if _, fault := parse.Parse(long); fault != (api.Fault{Err: api.ErrForm}) {
		t.Errorf("brackets alone are %v", fault)
	}
}

func TestZ2ParsedRulesAreTheCallers(t *testing.T) {
	text := "rule a = b & c + weekly mon: d shift 5; rule b = (b & c) shift 5; rule c = a;"
	first, _ := parse.Parse(text)
	want := clone(first)
	for i := range first {
		scribble(&first[i].Expr)
		first[i].Name = "x"
	}
	if again, fault := parse.Parse(text); fault != (api.Fault{}) || !same(again, want) {
		t.Errorf("Parse is %v, %v, when an earlier answer was changed", again, fault)
	}
}

func TestZ2ListsOfRulesShareNothing(t *testing.T) {
	text := "rule a = b & c + d & e - f; rule b = b & c shift 5; rule c = weekly mon: dates 2026-01-01: a;"
	l, _ := parse.Parse(text)
	want := clone(l)
	_ = append(l, rule("x", never()))
	for i := range l {
		appendBehind(l[i].Expr)
	}
	if !same(l, want) {
		t.Errorf("rules are %v, not %v, when their spare room was filled", l, want)
	}
}

func scribble(e *api.Expr) {
	for i := range e.Kids {
		scribble(&e.Kids[i])
	}
	e.Kind, e.A, e.B, e.Name = 99, 99, 99, "x"
}

// appendBehind fills the spare room of all lists of kids.
func appendBehind(e api.Expr) {
	for _, kid := range e.Kids {
		appendBehind(kid)
	}
	for n := len(e.Kids); n < cap(e.Kids); n++ {
		e.Kids[:n+1][n] = called("x")
	}
}
