package desk_test

import (
	"fmt"
	"math"
	"slices"
	"strings"
	"testing"

	"slotrules/api"
	"slotrules/check"
	"slotrules/code"
	"slotrules/parse"
)

// muchText is rules that are right, and too many steps for the machine: each calls the one ahead twice.
func muchText() string {
	s := "rule r0 = weekly mon: always;"
	for i := range 14 {
		s += fmt.Sprintf("rule r%d = r%d + r%d;", i+1, i, i)
	}
	return s
}

func TestK2TextsThatAreRefused(t *testing.T) {
	much := muchText()
	if l, fault := parse.Parse(much); fault.Err != api.OK || check.Wrong(l).Err != api.OK {
		t.Fatal("these rules should be right")
	} else if _, fault = code.Compile(l); fault.Err != api.ErrMuch {
		t.Fatal("these rules should be too much")
	}
	for _, x := range []struct {
		text string
		err  api.Errno
	}{
		{"oops", api.ErrForm}, {"rule", api.ErrForm}, {"rule a = always", api.ErrForm}, {"rule a = ?;", api.ErrForm}, {"\x00", api.ErrForm},
		{"rule a = 24:01-24:02;", api.ErrRange}, {"rule a = 10:00-09:00;", api.ErrRange}, {"rule a = always shift 0;", api.ErrRange}, {"rule a = dates 2400-01-01: always;", api.ErrRange},
		{"rule " + strings.Repeat("a", api.MaxWord+1) + " = always;", api.ErrName},
		{strings.Repeat("rule a = always;", api.MaxRules+1), api.ErrMany},
		{strings.Repeat(" ", api.MaxText+1), api.ErrMuch},
		{"rule a = " + strings.Repeat("(", api.MaxDeep) + "always" + strings.Repeat(")", api.MaxDeep) + ";", api.ErrMuch},
		{"rule a = always; rule a = always;", api.ErrName},
		{"rule a = zz;", api.ErrNone},
		{"rule a = a;", api.ErrCycle}, {"rule a = b; rule b = always - a;", api.ErrCycle},
		{much, api.ErrMuch},
		// Two at once: what is told by Parse, then by Wrong, then by Compile.
		{"rule a = a; rule b = zz; oops", api.ErrForm}, {much + "oops", api.ErrForm},
		{much + "rule a = a;", api.ErrCycle}, {much + "rule a = zz;", api.ErrNone}, {much + "rule r0 = always;", api.ErrName},
		{"rule a = a; rule b = zz;", api.ErrNone}, {"rule a = a; rule b = zz; rule a = always;", api.ErrName},
	} {
		script(t, no(rules(x.text), x.err, 0))
		l := append(scripted(t, shop()...), made(hold(0, someDay, 550, 0), 0, 1), no(rules(x.text), x.err, 1))
		d := script(t, append(l, offered(find(0, someDay, 1), 2, someDay, 550, 1), listed(rules("rule a = never;"), 3, 0))...)
		same(t, "rules", d.Rules, []api.Rule{{Name: "a", Expr: api.Expr{Kind: api.ENever}}})
	}
}

func TestK2TheseAreTheRules(t *testing.T) {
	for _, text := range []string{"", " # nothing", week, "rule a = always;", "rule b = a; rule a = weekly mon,sun: (09:00-10:00 + never) shift -5;", strings.Repeat(" ", api.MaxText)} {
		want, fault := parse.Parse(text)
		if fault.Err != api.OK {
			t.Fatal(fault)
		}
		same(t, text, script(t, fine(rules(text), 0)).Rules, want)
		same(t, text, script(t, fine(rules(week), 0), fine(rules(text), 0)).Rules, want)
		same(t, text, script(t, fine(rules(text), 0), no(rules("oops"), api.ErrForm, 0)).Rules, want)
	}
}

// again takes rules, asks of names when they are free, takes other lists of rules, and asks once more: it tells the names for which the machine ran again.
func again(t *testing.T, names string, texts ...string) string {
	t.Helper()
	l := dos(rules(texts[0]))
	all := strings.Fields(names)
	for _, name := range all {
		l = append(l, resource(name))
	}
	for i := range all {
		l = append(l, plain(1, pool(i)), find(i, someDay, 1))
	}
	if out := play(t, l); out.runs != len(all) {
		t.Fatalf("%q: the machine ran %d times at first", texts[0], out.runs)
	}
	for _, text := range texts[1:] {
		l = append(l, rules(text))
	}
	var ran []string
	runs := play(t, l).runs
	for i, name := range all {
		l = append(l, find(i, someDay, 1))
		out := play(t, l)
		if out.runs > runs {
			ran = append(ran, name)
		}
		runs = out.runs
	}
	return strings.Join(ran, " ")
}

func TestK2Versions(t *testing.T) {
	const chain = "rule x = y; rule y = z + 09:00-10:00; rule z = 11:00-12:00; rule w = 13:00-14:00;"
	const pair = "rule b = p; rule q = 10:00-11:00; rule p = 09:00-10:00;"
	for _, x := range []struct {
		names, want string
		texts       []string
	}{
		// As they were, however they are written.
		{"a b pause", "", []string{week, week}},
		{"a b pause", "", []string{week, week, week, week}},
		{"a b pause", "", []string{week, strings.ReplaceAll(week, " ", " \n# so\n ")}},
		{"a b pause", "", []string{week, strings.ReplaceAll(week, "a - pause", "((a) - (pause))")}},
		// What refers to what has changed, by way of others too, and what does not.
		{"a b pause", "a b", []string{week, strings.ReplaceAll(week, "09:00", "10:00")}},
		{"a b pause", "b pause", []string{week, strings.ReplaceAll(week, "12:00", "12:30")}},
		{"a b pause", "b", []string{week, strings.ReplaceAll(week, "a - pause", "a")}},
		{"x y z w", "x y z", []string{chain, strings.ReplaceAll(chain, "11:00", "11:30")}},
		{"x y z w", "x y", []string{chain, strings.ReplaceAll(chain, "09:00", "09:30")}},
		{"x y z w", "x", []string{chain, strings.ReplaceAll(chain, "= y", "= y & always")}},
		{"x y z w", "w", []string{chain, strings.ReplaceAll(chain, "13:00", "13:30")}},
		// One that means the same, but is not the same.
		{"a b pause", "a b", []string{week, strings.ReplaceAll(week, "09:00-17:00", "09:00-17:00 + never")}},
		// Another number, though the name is the same.
		{"a b pause", "b pause", []string{week, "rule a = 09:00-17:00; rule pause = 12:00-13:00; rule b = a - pause;"}},
		{"b q p", "b q p", []string{pair, "rule b = p; rule p = 09:00-10:00; rule q = 10:00-11:00;"}},
		{"a b pause", "a b pause", []string{week, "rule first = always;" + week}},
		{"x y z w", "x y", []string{chain, "rule y = z + 09:00-10:00; rule x = y; rule z = 11:00-12:00; rule w = 13:00-14:00;"}},
		// Another name, though the number is the same, and what it means.
		{"a c", "a c", []string{"rule a = 09:00-10:00; rule c = 09:00-10:00;", "rule c = 09:00-10:00; rule a = 09:00-10:00;"}},
		// More behind, and fewer.
		{"a b pause", "", []string{week, week + "rule more = b;"}},
		{"a b pause", "", []string{week + "rule more = b;", week}},
		{"a", "", []string{week, "rule a = 09:00-17:00;"}},
		// Refused rules give no version, and those that come next are held against the ones that were not refused.
		{"a b pause", "", []string{week, "oops", "rule a = a;", "rule a = zz;", muchText(), week}},
		{"a b pause", "a b", []string{week, "oops", strings.ReplaceAll(week, "09:00", "10:00"), "rule a = a;"}},
		{"a b pause", "", []string{week, strings.ReplaceAll(week, "09:00", "10:00") + "oops", week}},
		// Another one, and then as it was: it is the one ahead that counts.
		{"a b pause", "a b", []string{week, strings.ReplaceAll(week, "09:00", "10:00"), week}},
		{"a b pause", "b pause", []string{week, "rule a = 09:00-17:00;", week}},
		{"a b pause", "a b pause", []string{week, "", week}},
		{"a b pause", "a b pause", []string{week, "rule pause = 12:00-13:00; rule b = a - pause; rule a = 09:00-17:00;", week}},
	} {
		if got := again(t, x.names, x.texts...); got != x.want {
			t.Errorf("%q: run again are %q, not %q", x.texts, got, x.want)
		}
	}
}

// Each part of an expression counts.
func TestK2VersionsOfExpressions(t *testing.T) {
	const l = "rule c = 01:00-02:00; rule d = 01:00-02:00; rule a = "
	for _, x := range [][]string{
		{"always", "never", "00:00-24:00"},
		{"09:00-10:00", "09:01-10:00", "09:00-10:01"},
		{"weekly mon: always", "weekly mon,tue: always", "weekly mon: 00:00-24:00", "always"},
		{"dates 2026-11-16..2026-11-20: always", "dates 2026-11-15..2026-11-20: always", "dates 2026-11-16..2026-11-21: always", "dates 2026-11-16: always"},
		{"c", "d", "c + c", "c & c", "c + d", "d + c", "c - d", "c & d", "(c + d) + c", "c + (d + c)"},
		{"c shift 5", "c shift 6", "c shift -5", "d shift 5", "c shift 5 shift 5"},
		{"c + 09:00-10:00", "c + 09:00-10:01", "09:00-10:00 + c", "c - 09:00-10:00"},
	} {
		for _, first := range x {
			for _, second := range x {
				want := "a"
				if first == second {
					want = ""
				}
				if got := again(t, "a c d", l+first+";", l+second+";"); got != want {
					t.Errorf("%s, then %s: run again are %q", first, second, got)
				}
			}
		}
	}
}

// Nothing that was kept of a rule that has gone is taken for one that comes in its place.
func TestK2VersionsAreNew(t *testing.T) {
	early, late := "rule a = 09:00-10:00;", "rule a = 11:00-12:00;"
	a, b := "rule z = always;", func(hour int) string { return fmt.Sprintf("rule a = %02d:00-%02d:30;", hour, hour) }
	for _, x := range []struct {
		texts  []string
		minute int
	}{
		{[]string{early, late}, 660},
		{[]string{early, "", late}, 660},
		{[]string{early, "", "", late}, 660},
		{[]string{early, late, early}, 540},
		{[]string{early, late, "", early}, 540},
		{[]string{early, "oops", late, "oops"}, 660},
		{[]string{early, "rule z = never;", late}, 660},
		{[]string{a + b(1), a, a + b(2)}, 120},
		{[]string{a + b(1), a + b(2), a, a + b(3)}, 180},
		{[]string{a + b(1), a + b(2), a + b(3), a, a, a + b(4)}, 240},
		{[]string{a + b(1), a + b(2), a, "oops", a + b(3), a, a + b(4), a, a + b(5)}, 300},
		{[]string{a + b(1), "rule z = never;" + b(1), a + b(1), a, a + b(2)}, 120},
	} {
		l := dos(rules(x.texts[0]), resource("a"), plain(30, pool(0)), find(0, someDay, 1))
		for _, text := range x.texts[1:] {
			l = append(l, rules(text), find(0, someDay, 1))
		}
		out := play(t, l)
		same(t, fmt.Sprint(x.texts), out.answers[len(l)-1], api.Answer{Slot: slot(someDay, x.minute, 0)})
	}
}

// An appointment of a from 540 on, below 615, under new rules.
func TestK2ListOfOne(t *testing.T) {
	for _, x := range []struct {
		text    string
		allowed bool
		runs    int // more
	}{
		{"rule a = 09:00-17:00;", true, 0},
		{week, true, 0},
		{"rule a = 09:00-10:15;", true, 1},
		{"rule a = 09:01-17:00;", false, 1},
		{"rule a = 09:00-10:14;", false, 1},
		{"rule a = 08:59-10:16;", true, 1},
		// Free in the service's minutes, but not in those ahead, or behind.
		{"rule a = 09:10-10:15;", false, 1},
		{"rule a = 09:00-10:10;", false, 1},
		{"rule a = always;", true, 1},
		{"rule a = never;", false, 1},
		{"rule a = 09:00-10:00 + 10:01-17:00;", false, 1},
		{"rule a = 09:00-10:00 + 10:00-17:00;", true, 1},
		{"rule a = weekly mon: always;", true, 1},
		{"rule a = weekly tue,wed,thu,fri,sat,sun: always;", false, 1},
		{"rule a = dates 2026-11-16: always;", true, 1},
		{"rule a = dates 2026-11-17..2026-12-31: always;", false, 1},
		{"rule b = always; rule a = b;", true, 1},
		// No rule has that name any more: nothing is asked.
		{"rule b = always;", false, 0},
		{"rule aa = always;", false, 0},
		{"", false, 0},
	} {
		l := append(scripted(t, shop()...), made(hold(0, someDay, 550, 0), 0, 1))
		want := []int{0}
		if x.allowed {
			want = nil
		}
		for _, change := range [][]step{nil, {fine(confirm(0), 1)}, {fine(tick(9), 1)}} {
			held := script(t, append(l, change...)...).Appointments
			d := script(t, append(append(l, change...), listed(rules(x.text), 1+x.runs, want...))...)
			// A rule that changes cancels nothing.
			same(t, x.text, d.Appointments, held)
		}
		// Those that are gone are not asked of, and not told.
		script(t, append(l, fine(cancel(0), 1), listed(rules(x.text), 1))...)
		script(t, append(l, fine(tick(10), 1), listed(rules(x.text), 1))...)
	}
}

// Some still lie in what a resource's rule means, and some no longer do.
func TestK2ListOfSome(t *testing.T) {
	l := append(scripted(t, rules(week), resource("a"), resource("b"), plain(30, pool(0, 1))),
		made(hold(0, someDay, 540, 0), 0, 1),
		made(hold(0, someDay, 540, 1), 1, 2),
		made(hold(0, someDay, 700, 0), 2, 2),
		made(hold(0, someDay, 800, 1), 3, 2),
		made(hold(0, someDay+1, 540, 0), 4, 3),
		made(hold(0, someDay, 570, 0), 5, 3),
		fine(cancel(5), 3),
		fine(confirm(2), 3),
	)
	for _, x := range []struct {
		text string
		runs int
		want []int
	}{
		{week, 3, nil},
		{strings.ReplaceAll(week, "09:00", "10:00"), 6, []int{0, 1, 4}},
		{strings.ReplaceAll(week, "17:00", "12:10"), 6, []int{3}},
		{strings.ReplaceAll(week, "17:00", "12:09"), 6, []int{2, 3}},
		{strings.ReplaceAll(week, "13:00", "13:21"), 4, []int{3}},
		{strings.ReplaceAll(week, "13:00", "13:20"), 4, nil},
		{"rule b = always;", 4, []int{0, 2, 4}},
		{"rule a = always;", 5, []int{1, 3}},
		{"rule b = never; rule a = weekly mon: always;", 6, []int{1, 3, 4}},
		{"", 3, []int{0, 1, 2, 3, 4}},
	} {
		script(t, append(l, listed(rules(x.text), x.runs, x.want...))...)
		// And once more: what was asked is kept, and the same ones are told.
		script(t, append(l, listed(rules(x.text), x.runs, x.want...), listed(rules(x.text), x.runs, x.want...))...)
	}
}

// Resource by resource, in turn, up to the first one that is not free.
func TestK2ListAsksUpToTheFirst(t *testing.T) {
	const three = "rule a = 09:00-17:00; rule b = 09:00-17:00; rule c = 09:00-17:00;"
	begin := scripted(t, rules(three), resource("a"), resource("b"), resource("c"), plain(30, upTo(3), upTo(3), upTo(3)))
	for _, x := range []struct {
		who     []int
		a, b, c string
		runs    int // more
		listed  bool
	}{
		{pool(0, 1, 2), "always", "always", "always", 3, false},
		{pool(0, 1, 2), "never", "always", "always", 1, true},
		{pool(0, 1, 2), "always", "never", "always", 2, true},
		{pool(0, 1, 2), "always", "always", "never", 3, true},
		{pool(0, 1, 2), "never", "never", "never", 1, true},
		{pool(2, 0, 1), "never", "always", "always", 2, true},
		{pool(2, 0, 1), "always", "never", "always", 3, true},
		{pool(2, 0, 1), "always", "always", "never", 1, true},
		{pool(1, 2, 0), "never", "always", "always", 3, true},
		{pool(1, 2, 0), "never", "always", "never", 2, true},
		// What has not changed is not run again.
		{pool(0, 1, 2), "09:00-17:00", "always", "always", 2, false},
		{pool(0, 1, 2), "09:00-17:00", "never", "always", 1, true},
	} {
		l := append(begin, made(hold(0, someDay, 600, x.who...), 0, 3))
		var want []int
		if x.listed {
			want = []int{0}
		}
		text := fmt.Sprintf("rule a = %s; rule b = %s; rule c = %s;", x.a, x.b, x.c)
		script(t, append(l, listed(rules(text), 3+x.runs, want...))...)
	}
	// Where there is no such rule, nothing is asked, and nothing behind it.
	l := append(begin, made(hold(0, someDay, 600, 0, 1, 2), 0, 3))
	script(t, append(l, listed(rules("rule b = always; rule c = always;"), 3, 0))...)
	script(t, append(l, listed(rules("rule a = always; rule c = always;"), 4, 0))...)
	script(t, append(l, listed(rules("rule c = always; rule a = always; rule b = always;"), 6))...)
}

// A resource keeps its name: it is free again as soon as there is such a rule again.
func TestK2ResourceWhoseRuleIsGone(t *testing.T) {
	script(t, append(scripted(t, shop()...),
		offered(find(0, someDay, 1), 2, someDay, 550, 0),
		fine(rules("rule b = always;"), 2),
		offered(find(0, someDay, 1), 3, someDay, 10, 1),
		no(hold(0, someDay, 550, 0), api.ErrBusy, 3),
		fine(rules(""), 3),
		no(find(0, someDay, 1), api.ErrSlot, 3),
		no(find(0, 0, 30), api.ErrSlot, 3),
		no(hold(0, someDay, 550, 1), api.ErrBusy, 3),
		no(resource("a"), api.ErrName, 3),
		fine(rules("rule z = never; rule a = 10:00-12:00;"), 3),
		offered(find(0, someDay, 1), 4, someDay, 610, 0),
		made(hold(0, someDay, 610, 0), 0, 4),
		listed(rules("rule z = never;"), 4, 0),
		no(move(0, someDay, 610, 0), api.ErrBusy, 4),
		fine(confirm(0), 4),
		made(resource("z"), 2, 4),
	)...)
}

func TestK2Resources(t *testing.T) {
	script(t, no(resource("a"), api.ErrName, 0), no(resource(""), api.ErrName, 0))
	d := script(t,
		fine(rules(week), 0),
		made(resource("b"), 0, 0),
		no(resource("zz"), api.ErrName, 0),
		no(resource(""), api.ErrName, 0),
		no(resource("A"), api.ErrName, 0),
		no(resource("b "), api.ErrName, 0),
		no(resource("paus"), api.ErrName, 0),
		no(resource("always"), api.ErrName, 0),
		made(resource("pause"), 1, 0),
		made(resource("b"), 2, 0),
		fine(rules("rule zz = never;"), 0),
		no(resource("b"), api.ErrName, 0),
		made(resource("zz"), 3, 0),
	)
	same(t, "resources", d.Resources, []string{"b", "pause", "b", "zz"})
}

func TestK2AsManyAsMaxResources(t *testing.T) {
	l := []step{fine(rules(week), 0)}
	var want []string
	for i := range api.MaxResources {
		name := []string{"a", "b", "pause"}[i%3]
		l, want = append(l, made(resource(name), i, 0)), append(want, name)
	}
	// There are too many, ahead of there being no such rule.
	d := script(t, append(l, no(resource("a"), api.ErrMany, 0), no(resource("zz"), api.ErrMany, 0), made(plain(5, upTo(api.MaxPool), pool(api.MaxResources-1)), 0, 0))...)
	same(t, "resources", d.Resources, want)
}

func TestK2Services(t *testing.T) {
	d := script(t,
		fine(rules(week), 0),
		no(plain(5, pool(0)), api.ErrNone, 0),
		made(resource("a"), 0, 0),
		made(plain(5, pool(0)), 0, 0),
		no(plain(5, pool(1)), api.ErrNone, 0),
		no(plain(5, pool(0, 1)), api.ErrNone, 0),
		made(resource("a"), 1, 0),
		made(service(1, 2, 3, pool(1), pool(0, 1)), 1, 0),
		no(plain(5, pool(1, 0)), api.ErrForm, 0),
		no(plain(5, pool(-1)), api.ErrNone, 0),
		made(plain(api.Minutes, pool(0)), 2, 0),
	)
	same(t, "services", d.Services, []api.Service{
		{Length: 5, Roles: [][]int{{0}}}, {Length: 2, Before: 1, After: 3, Roles: [][]int{{1}, {0, 1}}}, {Length: api.Minutes, Roles: [][]int{{0}}},
	})
}

// wrongServices are those of which two resources say each error, and those that come first where two are wrong.
func wrongServices() []step {
	return []step{
		no(plain(0, pool(0)), api.ErrRange, 0),
		no(plain(-1, pool(0)), api.ErrRange, 0),
		no(plain(api.Minutes+1, pool(0)), api.ErrRange, 0),
		no(plain(math.MaxInt, pool(0)), api.ErrRange, 0),
		no(service(-1, 5, 0, pool(0)), api.ErrRange, 0),
		no(service(0, 5, math.MinInt, pool(0)), api.ErrRange, 0),
		no(service(720, 720, 1, pool(0)), api.ErrRange, 0),
		no(plain(5), api.ErrMany, 0),
		no(plain(5, slices.Repeat([][]int{pool(0)}, api.MaxRoles+1)...), api.ErrMany, 0),
		no(plain(5, pool(0), nil), api.ErrMany, 0),
		no(plain(5, upTo(api.MaxPool+1)), api.ErrMany, 0),
		no(plain(5, pool(0, 2)), api.ErrNone, 0),
		no(plain(5, pool(0, 0)), api.ErrForm, 0),
		no(plain(0), api.ErrRange, 0),
		no(plain(5, nil, pool(9)), api.ErrMany, 0),
		no(plain(5, pool(9), nil), api.ErrNone, 0),
	}
}

func TestK2WrongServices(t *testing.T) {
	for _, s := range wrongServices() {
		l := append(scripted(t, shop()...), s, made(plain(5, pool(1)), 1, 0))
		d := script(t, l...)
		same(t, fmt.Sprint(s.do), len(d.Services), 2)
	}
}

func TestK2AsManyAsMaxServices(t *testing.T) {
	l := scripted(t, rules(week), resource("a"), resource("b"))
	for i := range api.MaxServices {
		l = append(l, made(plain(1+i, pool(i%2)), i, 0))
	}
	l = append(l, no(plain(5, pool(0)), api.ErrMany, 0))
	// There are too many, ahead of what is wrong with it.
	for _, s := range wrongServices() {
		s.want.Err = api.ErrMany
		l = append(l, s)
	}
	d := script(t, l...)
	same(t, "services", len(d.Services), api.MaxServices)
	same(t, "the last one", d.Services[api.MaxServices-1], api.Service{Length: api.MaxServices, Roles: [][]int{{1}}})
}
