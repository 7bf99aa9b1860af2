package desk_test

import (
	"math"
	"slices"
	"strings"
	"testing"

	"slotrules/api"
)

// open has one resource that is always free, and a service of half an hour.
func open() []api.Do {
	return dos(rules("rule a = always;"), resource("a"), plain(30, pool(0)))
}

func TestK3Windows(t *testing.T) {
	const last = api.MaxDays - 1
	for _, x := range []struct {
		day, days int
		err       api.Errno
	}{
		{0, 1, api.OK}, {-1, 1, api.ErrRange}, {-1, 2, api.ErrRange}, {-30, 30, api.ErrRange}, {math.MinInt, 1, api.ErrRange},
		{last, 1, api.OK}, {last + 1, 1, api.ErrRange}, {last + 100, 1, api.ErrRange}, {math.MaxInt, 1, api.ErrRange}, {math.MaxInt, 30, api.ErrRange},
		{someDay, 1, api.OK}, {someDay, 0, api.ErrRange}, {someDay, -1, api.ErrRange}, {someDay, math.MinInt, api.ErrRange},
		{someDay, api.MaxWindow, api.OK}, {someDay, api.MaxWindow + 1, api.ErrRange}, {someDay, math.MaxInt, api.ErrRange},
		{0, api.MaxWindow, api.OK}, {0, api.MaxWindow + 1, api.ErrRange}, {0, 0, api.ErrRange},
		// Together they are at MaxDays, and one above.
		{last - 1, 2, api.OK}, {last, 2, api.ErrRange}, {api.MaxDays - api.MaxWindow, api.MaxWindow, api.OK}, {api.MaxDays - api.MaxWindow + 1, api.MaxWindow, api.ErrRange},
		// Together they are as they may be, but one is not.
		{last + 1, 0, api.ErrRange}, {last + 1, -1, api.ErrRange}, {-1, 1, api.ErrRange}, {api.MaxDays - 31, 31, api.ErrRange},
		{math.MaxInt, math.MaxInt, api.ErrRange}, {math.MinInt, math.MinInt, api.ErrRange}, {math.MaxInt, math.MinInt, api.ErrRange},
	} {
		l := scripted(t, open()...)
		if x.err == api.OK {
			script(t, append(l, offered(find(0, x.day, x.days), x.days, x.day, 0, 0))...)
		} else {
			// Nothing is asked then.
			script(t, append(l, no(find(0, x.day, x.days), x.err, 0))...)
		}
	}
}

func TestK3NoSuchService(t *testing.T) {
	for _, n := range []int{-1, 1, 2, api.MaxServices, math.MaxInt, math.MinInt} {
		script(t, no(find(n, someDay, 1), api.ErrNone, 0), no(find(0, someDay, 1), api.ErrNone, 0))
		// There is no such service, ahead of there being no such days.
		script(t, append(scripted(t, open()...), no(find(n, someDay, 1), api.ErrNone, 0), no(find(n, -1, 1), api.ErrNone, 0), no(find(n, someDay, 0), api.ErrNone, 0))...)
	}
}

// The slot's day is a day, not a number within the window.
func TestK3ADayIsTold(t *testing.T) {
	l := scripted(t, rules("rule a = dates 2026-11-16: 10:00-11:00;"), resource("a"), plain(60, pool(0)))
	for ahead := range api.MaxWindow {
		script(t, append(l,
			offered(find(0, someDay-ahead, ahead+1), ahead+1, someDay, 600, 0),
			offered(find(0, someDay-ahead, api.MaxWindow), api.MaxWindow, someDay, 600, 0),
		)...)
		if ahead > 0 {
			script(t, append(l, no(find(0, someDay-ahead, ahead), api.ErrSlot, ahead))...)
		}
	}
	script(t, append(l, no(find(0, someDay+1, api.MaxWindow), api.ErrSlot, api.MaxWindow))...)
	l = scripted(t, rules("rule a = dates 2000-01-01: always + dates 2399-12-31: 01:00-02:00;"), resource("a"), plain(60, pool(0)))
	script(t, append(l,
		offered(find(0, 0, 30), 30, 0, 0, 0),
		no(find(0, 1, 30), api.ErrSlot, 31),
		offered(find(0, api.MaxDays-30, 30), 61, api.MaxDays-1, 60, 0),
		no(find(0, api.MaxDays-31, 30), api.ErrSlot, 62),
	)...)
}

// What live appointments take is left out: of those resources, on that day.
func TestK3WhatIsTakenIsLeftOut(t *testing.T) {
	l := append(scripted(t, shop()...),
		made(plain(30, pool(0)), 1, 0),
		made(plain(30, pool(1)), 2, 0),
		offered(find(1, someDay, 1), 1, someDay, 540, 0),
		made(hold(0, someDay, 550, 0), 0, 1),
	)
	// With what is ahead and behind: from 540 to 615.
	taken := offered(find(1, someDay, 1), 1, someDay, 615, 0)
	for _, change := range [][]step{nil, {fine(confirm(0), 1)}, {fine(tick(9), 1)}, {fine(tick(0), 1)}, {fine(confirm(0), 1), fine(tick(1000), 1)}} {
		script(t, append(append(l, change...), taken,
			offered(find(2, someDay, 1), 2, someDay, 540, 1),
			offered(find(1, someDay+1, 1), 3, someDay+1, 540, 0),
			offered(find(1, someDay-1, 2), 4, someDay-1, 540, 0),
			offered(find(0, someDay, 1), 4, someDay, 550, 1),
		)...)
	}
	free := func(runs int) step { return offered(find(1, someDay, 1), runs, someDay, 540, 0) }
	for _, change := range [][]step{{fine(cancel(0), 1)}, {fine(tick(10), 1)}, {fine(confirm(0), 1), fine(cancel(0), 1)}} {
		script(t, append(append(l, change...), free(1))...)
	}
	// Moved, it takes something else.
	script(t, append(l, fine(move(0, someDay, 950, 0), 1), free(1), offered(find(0, someDay, 1), 2, someDay, 550, 0))...)
	script(t, append(l, fine(move(0, someDay, 560, 0), 1), offered(find(1, someDay, 1), 1, someDay, 625, 0))...)
	script(t, append(l, fine(move(0, someDay, 550, 1), 2), free(2), offered(find(2, someDay, 1), 2, someDay, 615, 1))...)
	script(t, append(l, fine(move(0, someDay+1, 550, 0), 2), free(2), offered(find(1, someDay+1, 1), 2, someDay+1, 615, 0))...)
}

// All resources of an appointment are taken, and between two appointments someone is free.
func TestK3BetweenAppointments(t *testing.T) {
	script(t, append(scripted(t, rules("rule a = 09:00-12:00; rule b = 09:00-12:00;"), resource("a"), resource("b"), plain(30, pool(0), pool(1)), plain(60, pool(0)), plain(30, pool(1))),
		made(hold(0, someDay, 540, 0, 1), 0, 2),
		made(hold(0, someDay, 629, 0, 1), 1, 2),
		offered(find(1, someDay, 1), 2, someDay, 659, 0),
		offered(find(2, someDay, 1), 2, someDay, 570, 1),
		fine(move(1, someDay, 630, 0, 1), 2),
		offered(find(1, someDay, 1), 2, someDay, 570, 0),
		made(hold(2, someDay, 570, 1), 2, 2),
		offered(find(0, someDay, 1), 2, someDay, 600, 0, 1),
		made(hold(1, someDay, 570, 0), 3, 2),
		offered(find(0, someDay, 1), 2, someDay, 660, 0, 1),
		made(hold(0, someDay, 660, 0, 1), 4, 2),
		made(hold(0, someDay, 690, 0, 1), 5, 2),
		no(find(0, someDay, 1), api.ErrSlot, 2),
		offered(find(0, someDay, 2), 4, someDay+1, 540, 0, 1),
	)...)
}

// Of two roles that one alone can fill, and another one two, that one is left for it.
func TestK3TwoRoles(t *testing.T) {
	script(t, append(scripted(t, rules("rule a = 09:00-10:00; rule b = 09:00-10:00;"), resource("a"), resource("b"), plain(30, pool(0, 1), pool(0))),
		offered(find(0, someDay, 1), 2, someDay, 540, 1, 0),
		made(hold(0, someDay, 540, 1, 0), 0, 2),
		offered(find(0, someDay, 1), 2, someDay, 570, 1, 0),
		made(hold(0, someDay, 570, 1, 0), 1, 2),
		no(find(0, someDay, 1), api.ErrSlot, 2),
	)...)
}

// All days are asked, of all that are in a pool, and of no others.
func TestK3WhatIsAsked(t *testing.T) {
	const five = "rule a = always; rule b = always; rule c = always; rule d = always; rule e = always;"
	begin := append(dos(rules(five)), resource("a"), resource("b"), resource("c"), resource("d"), resource("e"), resource("a"))
	for _, x := range []struct {
		pools [][]int
		days  int
		runs  int
	}{
		{[][]int{{0}}, 1, 1}, {[][]int{{0}}, 3, 3}, {[][]int{{0}}, 30, 30},
		{[][]int{{4}}, 3, 3}, {[][]int{{1, 3}}, 3, 6}, {[][]int{{1}, {3}}, 3, 6}, {[][]int{{0, 1, 2, 3, 4}}, 6, 30},
		// In two pools, it is asked once; two with one rule are run once.
		{[][]int{{0, 1}, {0, 1}, {1}}, 3, 6}, {[][]int{{0, 5}}, 3, 3}, {[][]int{{0}, {5}}, 3, 3}, {[][]int{{5}}, 2, 2},
	} {
		l := append(slices.Clone(begin), plain(30, x.pools...), find(0, someDay, x.days), find(0, someDay, x.days))
		for i, runs := range []int{0, x.runs, x.runs} {
			if got := play(t, l[:len(begin)+1+i]).runs; got != runs {
				t.Errorf("%v, %d days: %d runs, not %d", x.pools, x.days, got, runs)
			}
		}
	}
}

// Day by day, resource by resource, as they rise: more than is kept is asked, and the order tells which are kept.
func TestK3TheOrderOfAsking(t *testing.T) {
	const three = "rule a = always; rule b = always; rule c = always;"
	for _, pools := range [][][]int{{{0, 1, 2}}, {{2}, {1}, {0}}, {{2}, {0, 1}}, {{0, 1}, {2}}, {{0, 1, 2}, {0, 1, 2}, {0, 1, 2}}} {
		l := scripted(t, rules(three), resource("a"), resource("b"), resource("c"), plain(30, pools...), plain(30, pool(0)), plain(30, pool(1)), plain(30, pool(2)))
		l = append(l, scripted(t, append(commands(l), find(0, 0, 30))...)[len(l):]...)
		// Of 90, the last 64 are kept: days 9 to 29, and of day 8 the last resource.
		runs := func(n, day, more int) { script(t, append(l, offered(find(n, day, 1), 90+more, day, 0, n-1))...) }
		for n := 1; n <= 3; n++ {
			runs(n, 0, 1)
			runs(n, 7, 1)
			runs(n, 9, 0)
			runs(n, 29, 0)
		}
		runs(1, 8, 1)
		runs(2, 8, 1)
		runs(3, 8, 0)
	}
}

func commands(l []step) []api.Do {
	var out []api.Do
	for _, s := range l {
		out = append(out, s.do)
	}
	return out
}

// The rule is the one of that name, wherever it stands.
func TestK3RulesByName(t *testing.T) {
	script(t, append(scripted(t, shop()...),
		offered(find(0, someDay, 1), 2, someDay, 550, 0),
		fine(rules("rule pause = never; rule b = 08:00-10:00; rule a = 11:00-13:00;"), 2),
		offered(find(0, someDay, 1), 4, someDay, 490, 1),
		fine(rules("rule x = never; rule y = never; rule z = never; rule a = 07:00-10:00;"), 4),
		offered(find(0, someDay, 1), 5, someDay, 430, 0),
		fine(rules(strings.ReplaceAll(week, "09:00", "10:00")), 5),
		offered(find(0, someDay, 2), 9, someDay, 610, 0),
		offered(find(0, someDay, 2), 9, someDay, 610, 0),
	)...)
}
