package cache_test

import (
	"fmt"
	"math"
	"math/rand"
	"slices"
	"testing"

	"slotrules/api"
	compiler "slotrules/code"
	"slotrules/mean"
	"slotrules/parse"
)

// told tells a cache: of each mask its first word alone.
func told(c api.Cache) string {
	s := fmt.Sprintf("runs %d:", c.Runs)
	for _, k := range c.Kept {
		s += fmt.Sprintf(" {%d %d %d: %x}", k.Rule, k.Day, k.Version, k.Mask[0])
	}
	return s
}

// answers asks Get for a mask, what is kept then, and how often the machine ran.
func answers(t *testing.T, c api.Cache, l []api.Code, version, rule, day int, mask api.Mask, want api.Cache) {
	t.Helper()
	got, then, fault := get(t, c, l, version, rule, day)
	if fault != (api.Fault{}) || got != mask || then.Runs != want.Runs || !slices.Equal(then.Kept, want.Kept) {
		t.Errorf("Get of %s as of %d, rule %d, day %d is %x, %v, %s, not %x, %s", told(c), version, rule, day, got, fault, told(then), mask, told(want))
	}
}

// found asks for something that is kept: the machine does not run.
func found(t *testing.T, kept []api.Kept, version, rule, day int, mask api.Mask, then []api.Kept) {
	t.Helper()
	for _, runs := range []int{0, 7, -3, math.MaxInt, math.MinInt} {
		answers(t, api.Cache{Kept: kept, Runs: runs}, rules(), version, rule, day, mask, api.Cache{Kept: then, Runs: runs})
	}
}

// ran asks for something that is not kept as of that version: the machine runs once, and what it left is behind these.
func ran(t *testing.T, kept []api.Kept, version, rule, day int, ahead []api.Kept) {
	t.Helper()
	for _, runs := range []int{0, 7, -1, -3, math.MaxInt - 1} {
		then := list(ahead, made(version, rule, day))
		answers(t, api.Cache{Kept: kept, Runs: runs}, rules(), version, rule, day, meant(rule, day), api.Cache{Kept: then, Runs: runs + 1})
	}
}

// fails asks for a fault, with no mask and a cache that has nothing.
func fails(t *testing.T, c api.Cache, l []api.Code, version, rule, day int, want api.Fault) {
	t.Helper()
	mask, then, fault := get(t, c, l, version, rule, day)
	if fault != want || mask != (api.Mask{}) || len(then.Kept) != 0 || then.Runs != 0 {
		t.Errorf("Get of %s as of %d, rule %d, day %d is %x, %v, %s, not %v", told(c), version, rule, day, mask, fault, told(then), want)
	}
}

func TestI1WhatIsKeptIsTheLastOneThen(t *testing.T) {
	l := row(5)
	for at, k := range l {
		found(t, l, 1, 0, someDay+at, seal(at), list(l[:at], l[at+1:], k))
	}
	found(t, l[:1], 1, 0, someDay, seal(0), l[:1])
	found(t, l[:2], 1, 0, someDay, seal(0), list(l[1], l[0]))
	found(t, l[:2], 1, 0, someDay+1, seal(1), l[:2])
}

func TestI1AnotherVersionIsGone(t *testing.T) {
	l := row(5)
	for at := range l {
		for _, version := range []int{0, 2, -1, 100, math.MaxInt, math.MinInt} {
			ran(t, l, version, 0, someDay+at, list(l[:at], l[at+1:]))
		}
	}
	ran(t, l[:1], 2, 0, someDay, nil)
	// An older one than what is kept is another one, too.
	ran(t, list(sealed(2, someDay, 9, 4)), 8, 2, someDay, nil)
	// The others keep their versions.
	ran(t, list(sealed(1, someDay, 3, 1), sealed(2, someDay, 1, 2), sealed(3, someDay, 5, 3)), 2, 2, someDay, list(sealed(1, someDay, 3, 1), sealed(3, someDay, 5, 3)))
}

func TestI1WhatIsNotKept(t *testing.T) {
	l := row(5)
	// The same rule on another day, and another rule on the same day.
	ran(t, l, 1, 0, someDay-1, l)
	ran(t, l, 1, 0, someDay+5, l)
	ran(t, l, 1, 1, someDay, l)
	ran(t, l, 1, 2, someDay+4, l)
	ran(t, l, 2, 3, someDay+1, l)
	// A rule and a day that are kept, but not with each other.
	apart := list(sealed(0, someDay+1, 1, 1), sealed(1, someDay, 1, 2))
	ran(t, apart, 1, 0, someDay, apart)
	ran(t, apart, 1, 1, someDay+1, apart)
	// Where their numbers stand in each other's places.
	turned := list(sealed(3, 1, 1, 1), sealed(1, 3, 2, 2), sealed(2, 1, 3, 3))
	ran(t, turned, 2, 3, 3, turned)
	ran(t, turned, 3, 1, 2, turned)
	found(t, turned, 2, 1, 3, seal(2), list(turned[0], turned[2], turned[1]))
}

func TestI1AnEmptyCache(t *testing.T) {
	for _, l := range [][]api.Kept{nil, {}, make([]api.Kept, 0, 9)} {
		for rule := range rules() {
			for _, day := range []int{0, someDay - 1, someDay, someDay + 1, api.MaxDays - 1} {
				ran(t, l, 1, rule, day, nil)
			}
		}
		ran(t, l, 0, 0, 0, nil)
	}
}

func TestI1AsManyAsMaxKept(t *testing.T) {
	for _, n := range []int{api.MaxKept - 2, api.MaxKept - 1, api.MaxKept} {
		l := row(n)
		for _, at := range []int{0, 1, n / 2, n - 1} {
			others := list(l[:at], l[at+1:])
			found(t, l, 1, 0, someDay+at, seal(at), list(others, l[at]))
			ran(t, l, 2, 0, someDay+at, others)
		}
		if n < api.MaxKept {
			ran(t, l, 1, 1, someDay, l)
		} else {
			ran(t, l, 1, 1, someDay, l[1:])
		}
	}
}

func TestI1MoreThanMaxKept(t *testing.T) {
	for _, more := range []int{1, 2, 3, api.MaxKept, 1000} {
		n := api.MaxKept + more
		l := row(n)
		// One that is not kept: just MaxKept are left, it among them.
		ran(t, l, 1, 1, someDay, l[more+1:])
		for _, at := range []int{0, 1, more - 1, more, n / 2, n - 1} {
			others := list(l[:at], l[at+1:])
			ran(t, l, 2, 0, someDay+at, others[more:])
			// None is gone of what is only found.
			found(t, l, 1, 0, someDay+at, seal(at), list(others, l[at]))
		}
	}
}

func TestI1TheFirstOneCounts(t *testing.T) {
	early, late, x := sealed(0, someDay, 1, 1), sealed(0, someDay, 2, 2), sealed(1, someDay, 2, 3)
	// Whatever the second one's version is.
	found(t, list(early, x, late), 1, 0, someDay, seal(1), list(x, late, early))
	found(t, list(late, x, early), 2, 0, someDay, seal(2), list(x, early, late))
	ran(t, list(early, x, late), 2, 0, someDay, list(x, late))
	ran(t, list(late, x, early), 1, 0, someDay, list(x, early))
	ran(t, list(early, late, x), 3, 0, someDay, list(late, x))
	// One thing twice, and three times.
	again := sealed(0, someDay, 1, 9)
	found(t, list(early, again), 1, 0, someDay, seal(1), list(again, early))
	found(t, list(x, again, early), 1, 0, someDay, seal(9), list(x, early, again))
	found(t, list(early, early, x, early), 1, 0, someDay, seal(1), list(early, x, early, early))
	ran(t, list(early, early, x, early), 2, 0, someDay, list(early, x, early))
	// The first one goes ahead of those that are too many.
	l := row(api.MaxKept)
	l[1] = l[0]
	ran(t, l, 2, 0, someDay, l[1:])
	l[40], l[1] = l[0], sealed(1, someDay, 1, 5)
	ran(t, l[1:], 2, 0, someDay, list(l[1:40], l[41:]))
}

func TestI1OneAfterTheOther(t *testing.T) {
	var c api.Cache
	for i, x := range []struct{ version, rule, day, runs, kept int }{
		{1, 0, someDay, 1, 1},
		{1, 0, someDay, 1, 1},
		{1, 1, someDay, 2, 2},
		{1, 0, someDay + 1, 3, 3},
		{1, 1, someDay, 3, 3},
		{1, 0, someDay, 3, 3},
		{2, 0, someDay, 4, 3},
		{1, 0, someDay + 1, 4, 3},
		{1, 0, someDay, 5, 3},
		{2, 0, someDay, 6, 3},
		{2, 0, someDay, 6, 3},
		{2, 2, someDay, 7, 4},
		{2, 3, someDay + 9, 8, 5},
		{2, 3, someDay + 10, 9, 6},
		{2, 2, someDay, 9, 6},
	} {
		mask, then, fault := get(t, c, rules(), x.version, x.rule, x.day)
		if fault != (api.Fault{}) || mask != meant(x.rule, x.day) || then.Runs != x.runs || len(then.Kept) != x.kept {
			t.Fatalf("%d: %v comes of %v: %x, %v, %s", i, x, told(c), mask, fault, told(then))
		}
		if last := then.Kept[x.kept-1]; last != made(x.version, x.rule, x.day) {
			t.Fatalf("%d: the last one is %v", i, last)
		}
		c = then
	}
}

func TestI1WhatIsAskedAgainStays(t *testing.T) {
	var c api.Cache
	ask := func(day, runs int) {
		t.Helper()
		_, then, fault := get(t, c, rules(), 1, 0, day)
		if fault != (api.Fault{}) || then.Runs != runs {
			t.Fatalf("day %d: %v, %d runs, not %d", day, fault, then.Runs, runs)
		}
		c = then
	}
	for day := range api.MaxKept {
		ask(day, day+1)
	}
	// Asked again, the first one is the last one, and it is the second one that goes.
	ask(0, api.MaxKept)
	ask(1000, api.MaxKept+1)
	ask(0, api.MaxKept+1)
	ask(2, api.MaxKept+1)
	ask(1, api.MaxKept+2)
	ask(3, api.MaxKept+3)
	// One more than are kept, in turn: each goes just ahead of being asked for.
	c = api.Cache{}
	for i := range 3 * (api.MaxKept + 1) {
		ask(i%(api.MaxKept+1), i+1)
	}
	// As many as are kept, in turn: none is run again.
	c = api.Cache{}
	for i := range 3 * api.MaxKept {
		ask(i%api.MaxKept, min(i+1, api.MaxKept))
	}
}

func TestI1TheCodeIsNotAskedForWhatIsKept(t *testing.T) {
	l := list(sealed(0, someDay, 1, 1), sealed(-1, someDay, 1, 2), sealed(0, -1, 1, 3), sealed(99, api.MaxDays, 1, 4), sealed(math.MinInt, math.MaxInt, math.MinInt, 5))
	for _, codes := range [][]api.Code{nil, {}, rules(), {{}}, make([]api.Code, api.MaxRules+1)} {
		for at, k := range l {
			want := api.Cache{Kept: list(l[:at], l[at+1:], k), Runs: 3}
			answers(t, api.Cache{Kept: l, Runs: 3}, codes, k.Version, k.Rule, k.Day, k.Mask, want)
		}
	}
}

func TestI1NoSuchRuleOrDay(t *testing.T) {
	none, beyond := api.Fault{Err: api.ErrNone}, api.Fault{Err: api.ErrRange}
	for _, c := range []api.Cache{{}, {Kept: row(3), Runs: 5}, {Kept: row(api.MaxKept), Runs: 90}, {Kept: row(api.MaxKept + 5), Runs: -1}} {
		for _, rule := range []int{-1, 4, 5, api.MaxRules, math.MaxInt, math.MinInt} {
			fails(t, c, rules(), 1, rule, someDay, none)
			// There is no such rule, ahead of there being no such day.
			fails(t, c, rules(), 1, rule, -1, none)
		}
		for _, day := range []int{-1, api.MaxDays, math.MaxInt, math.MinInt} {
			fails(t, c, rules(), 1, 0, day, beyond)
			fails(t, c, rules(), 1, 3, day, beyond)
		}
		fails(t, c, nil, 1, 1, someDay, none)
	}
	// They are kept, as of another version.
	l := list(sealed(0, someDay, 1, 1), sealed(4, someDay, 1, 2), sealed(0, -1, 1, 3), sealed(0, api.MaxDays, 1, 4))
	fails(t, api.Cache{Kept: l, Runs: 5}, rules(), 2, 4, someDay, none)
	fails(t, api.Cache{Kept: l, Runs: 5}, rules(), 2, 0, -1, beyond)
	fails(t, api.Cache{Kept: l, Runs: 5}, rules(), 2, 0, api.MaxDays, beyond)
	// The first and the last day, and the last rule, are there.
	ran(t, l, 1, 3, someDay, l)
	ran(t, l, 1, 0, 0, l)
	ran(t, l, 1, 0, api.MaxDays-1, l)
}

func TestI1EachFaultOfTheMachine(t *testing.T) {
	nine, call := spansOf(api.Span{A: 540, B: 600}), func(rule int) api.Ins { return api.Ins{Op: api.ICall, A: rule} }
	fine := rules()[0]
	for _, x := range []struct {
		err api.Errno
		at  int
		l   []api.Code
	}{
		{api.ErrMany, 0, slices.Repeat([]api.Code{fine}, api.MaxRules+1)},
		{api.ErrMany, 0, []api.Code{plainly()}},
		{api.ErrMany, 1, []api.Code{fine, plainly(slices.Repeat([]api.Ins{nine}, api.MaxCode+1)...)}},
		{api.ErrMuch, 1, []api.Code{fine, {Ins: fine.Ins, High: 0, Steps: 1}}},
		{api.ErrMuch, 2, []api.Code{fine, fine, {Ins: fine.Ins, High: 1, Steps: api.MaxSteps + 1}}},
		{api.ErrKind, 1, []api.Code{fine, plainly(api.Ins{Op: 9})}},
		{api.ErrForm, 0, []api.Code{plainly(spansOf(api.Span{A: 5, B: 5})), fine}},
		{api.ErrRange, 3, []api.Code{fine, fine, fine, plainly(nine, api.Ins{Op: api.IShift})}},
		{api.ErrFit, 1, []api.Code{fine, plainly(api.Ins{Op: api.IWeek, A: 1, To: 1}, nine)}},
		{api.ErrRange, 0, []api.Code{plainly(api.Ins{Op: api.IDates, A: 2, B: 1, To: 2}, nine)}},
		{api.ErrNone, 1, []api.Code{fine, plainly(call(2))}},
		{api.ErrCycle, 1, []api.Code{fine, plainly(call(2)), plainly(call(1))}},
		{api.ErrFit, 2, []api.Code{fine, fine, plainly(nine, nine)}},
		{api.ErrFit, 1, []api.Code{fine, {Ins: fine.Ins, High: 1, Steps: 2}}},
	} {
		want := api.Fault{Err: x.err, At: x.at}
		l := list(row(3), sealed(1, someDay, 1, 9), sealed(-1, someDay, 1, 10))
		for _, c := range []api.Cache{{}, {Kept: l, Runs: 4}, {Kept: list(row(api.MaxKept), l)}} {
			// Whichever rule, on whichever day, there is one or not.
			for _, rule := range []int{0, 1, 2, x.at, -1, len(x.l)} {
				fails(t, c, x.l, 2, rule, someDay, want)
				fails(t, c, x.l, 2, rule, -1, want)
				fails(t, c, x.l, 1, rule, someDay+500, want)
			}
		}
		answers(t, api.Cache{Kept: l, Runs: 4}, x.l, 1, 1, someDay, seal(9), api.Cache{Kept: list(l[:3], l[4], l[3]), Runs: 4})
		answers(t, api.Cache{Kept: l, Runs: 4}, x.l, 1, -1, someDay, seal(10), api.Cache{Kept: l, Runs: 4})
	}
}

func TestI1WhatIsKeptIsWhatIs(t *testing.T) {
	l, fault := parse.Parse("rule a = b - pause; rule b = weekly mon,tue,sun: 08:00-18:00; rule pause = 12:00-12:30 shift -15; rule d = dates 2026-11-10..2026-11-20: always - a;")
	codes, wrong := compiler.Compile(l)
	if fault != (api.Fault{}) || wrong != (api.Fault{}) {
		t.Fatal(fault, wrong)
	}
	r := rand.New(rand.NewSource(21))
	var c api.Cache
	asked := map[[2]int]int{}
	for i := range 3000 {
		rule, day := r.Intn(len(l)), someDay-5+r.Intn(12)
		all, _ := mean.All(l, day)
		mask, then, fault := get(t, c, codes, 1, rule, day)
		asked[[2]int{rule, day}]++
		// All that is asked for has room: each of it is run once.
		if fault != (api.Fault{}) || mask != all[rule] || then.Runs != len(asked) || len(then.Kept) != len(asked) {
			t.Fatalf("%d: rule %d, day %d is %x, %v, %d runs, %d kept, not %x, %d", i, rule, day, mask, fault, then.Runs, len(then.Kept), all[rule], len(asked))
		}
		c = then
	}
}

func TestI1ByTheDocumentsWords(t *testing.T) {
	r := rand.New(rand.NewSource(22))
	seen := map[string]int{}
	for range 300 {
		c := api.Cache{Runs: r.Intn(9) - 4}
		for i := range r.Intn(90) {
			c.Kept = append(c.Kept, sealed(r.Intn(6)-1, someDay+r.Intn(16), r.Intn(3), i))
		}
		for range 40 {
			version, rule, day := r.Intn(3), r.Intn(6)-1, someDay+r.Intn(16)
			mask, want, fault := plainGet(c, rules(), version, rule, day)
			got, then, wrong := get(t, c, rules(), version, rule, day)
			if got != mask || wrong != fault || then.Runs != want.Runs || !slices.Equal(then.Kept, want.Kept) {
				t.Fatalf("Get of %s as of %d, rule %d, day %d is %x, %v, %s, not %x, %v, %s", told(c), version, rule, day, got, wrong, told(then), mask, fault, told(want))
			}
			switch {
			case fault != (api.Fault{}):
				seen["fault"]++
				continue
			case then.Runs == c.Runs:
				seen["found"]++
			case len(then.Kept) > len(c.Kept):
				seen["more"]++
			case len(then.Kept) < len(c.Kept):
				seen["fewer"]++
			default:
				seen["instead"]++
			}
			c = then
		}
	}
	for _, s := range []string{"fault", "found", "more", "fewer", "instead"} {
		if seen[s] < 50 {
			t.Errorf("there were %v", seen)
		}
	}
}
