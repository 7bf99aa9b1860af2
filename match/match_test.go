package match_test

import (
	"fmt"
	"math"
	"math/rand"
	"slices"
	"testing"

	"slotrules/api"
	"slotrules/masks"
	"slotrules/match"
	"slotrules/mean"
	"slotrules/parse"
)

// wrong asks Wrong for an error, or for OK.
func wrong(t *testing.T, s api.Service, resources int, want api.Errno) {
	t.Helper()
	if got := wrongOf(t, s, resources); got != want {
		t.Errorf("Wrong(%v, %d) is %d, not %d", s, resources, got, want)
	}
}

// told tells days: the spans of each resource.
func told(days [][]api.Mask) string {
	s := ""
	for i, d := range days {
		s += fmt.Sprintf(" day %d:", i)
		for _, m := range d {
			s += fmt.Sprint(masks.Spans(m))
		}
	}
	return fmt.Sprintf("%.500s", s)
}

// answers asks Find for a slot and an error.
func answers(t *testing.T, s api.Service, days [][]api.Mask, want api.Slot, err api.Errno) {
	t.Helper()
	got, e := find(t, s, days)
	if e != err || got.Day != want.Day || got.Minute != want.Minute || !slices.Equal(got.Who, want.Who) {
		t.Errorf("Find(%v,%s) is %v, %d, not %v, %d", s, told(days), got, e, want, err)
	}
}

// had asks for a slot that can be had on some days.
func had(t *testing.T, s api.Service, want api.Slot, days ...[]api.Mask) {
	t.Helper()
	answers(t, s, days, want, api.OK)
}

// fails asks for an error, and for nothing beside it.
func fails(t *testing.T, s api.Service, err api.Errno, days ...[]api.Mask) {
	t.Helper()
	answers(t, s, days, api.Slot{}, err)
}

// wrongAnyhow asks both Wrong and Find for an error: Find, whether the days are open or shut.
func wrongAnyhow(t *testing.T, s api.Service, resources int, want api.Errno) {
	t.Helper()
	wrong(t, s, resources, want)
	if resources >= 0 {
		fails(t, s, want, open(resources))
		fails(t, s, want, shut(resources), open(resources))
		fails(t, s, want, open(resources), shut(resources))
	}
}

// right asks Wrong for OK, and Find for the slot of an open day.
func right(t *testing.T, s api.Service, resources int, who ...int) {
	t.Helper()
	wrong(t, s, resources, api.OK)
	had(t, s, slot(0, s.Before, who...), open(resources))
	fails(t, s, api.ErrSlot, shut(resources))
}

func TestJ1Right(t *testing.T) {
	right(t, plain(30, pool(0)), 1, 0)
	right(t, plain(30, pool(0)), 9, 0)
	right(t, service(10, 30, 5, pool(1, 2)), 3, 1)
	right(t, service(10, 30, 5, pool(0, 2), pool(0, 1)), 3, 0, 1)
	right(t, service(0, 45, 15, pool(3), pool(0, 1, 2), pool(1, 4)), 5, 3, 0, 1)
	wrong(t, plain(30, pool(0, math.MaxInt-1)), math.MaxInt, api.OK)
}

func TestJ1Measures(t *testing.T) {
	p := pool(0)
	for _, s := range []api.Service{
		plain(1, p), plain(2, p), plain(api.Minutes-1, p), plain(api.Minutes, p),
		service(api.Minutes-1, 1, 0, p), service(0, 1, api.Minutes-1, p), service(api.Minutes-2, 1, 1, p),
		service(1, api.Minutes-1, 0, p), service(0, api.Minutes-1, 1, p), service(1, api.Minutes-2, 1, p),
		service(480, 480, 480, p), service(1, 1, 1, p), service(0, 1, 0, p),
	} {
		right(t, s, 1, 0)
	}
	for _, s := range []api.Service{
		plain(0, p), plain(-1, p), plain(api.Minutes+1, p), service(5, 0, 5, p),
		service(-1, 5, 0, p), service(api.Minutes+1, 5, 0, p), service(0, 5, -1, p), service(0, 5, api.Minutes+1, p),
		// One is below what it may be, and all three together are not too many.
		service(-1, api.Minutes, 0, p), service(-5, 10, 5, p), service(5, 10, -5, p), service(-1, api.Minutes+1, 0, p), service(3, -1, 3, p),
		// Each one is as it may be, and all three together are one too many.
		service(api.Minutes, 1, 0, p), service(0, 1, api.Minutes, p), service(1, api.Minutes, 0, p), service(0, api.Minutes, 1, p),
		service(1, api.Minutes-1, 1, p), service(480, 481, 480, p), service(481, 480, 480, p), service(480, 480, 481, p),
		service(api.Minutes, api.Minutes, api.Minutes, p),
	} {
		wrongAnyhow(t, s, 1, api.ErrRange)
	}
}

func TestJ1HugeMeasures(t *testing.T) {
	for _, n := range []int{math.MinInt, math.MinInt + 1, math.MaxInt - 1, math.MaxInt} {
		wrongAnyhow(t, plain(n, pool(0)), 1, api.ErrRange)
		wrongAnyhow(t, service(n, 5, 0, pool(0)), 1, api.ErrRange)
		wrongAnyhow(t, service(0, 5, n, pool(0)), 1, api.ErrRange)
		wrongAnyhow(t, service(n, 5, n, pool(0)), 1, api.ErrRange)
		// Their sums may wrap round.
		wrongAnyhow(t, service(n, -n, 5, pool(0)), 1, api.ErrRange)
		wrongAnyhow(t, service(n, 5, -n, pool(0)), 1, api.ErrRange)
		wrongAnyhow(t, service(n, n, 5, pool(0)), 1, api.ErrRange)
		wrongAnyhow(t, service(0, n, 5, pool(0)), 1, api.ErrRange)
		wrongAnyhow(t, service(api.Minutes, n, api.Minutes, pool(0)), 1, api.ErrRange)
		wrongAnyhow(t, service(n, api.Minutes, api.Minutes, pool(0)), 1, api.ErrRange)
		wrongAnyhow(t, service(api.Minutes, api.Minutes, n, pool(0)), 1, api.ErrRange)
	}
}

func TestJ1Roles(t *testing.T) {
	wrongAnyhow(t, api.Service{Length: 5}, 3, api.ErrMany)
	wrongAnyhow(t, api.Service{Length: 5, Roles: [][]int{}}, 3, api.ErrMany)
	right(t, plain(5, pool(0)), 9, 0)
	many := slices.Repeat(roles(upTo(api.MaxPool)), api.MaxRoles)
	right(t, plain(5, many...), api.MaxPool, upTo(api.MaxRoles)...)
	wrongAnyhow(t, plain(5, append(many, pool(0))...), api.MaxPool, api.ErrMany)
	wrongAnyhow(t, plain(5, slices.Repeat(many, 100)...), api.MaxPool, api.ErrMany)
}

func TestJ1Pools(t *testing.T) {
	full := upTo(api.MaxPool)
	right(t, plain(5, full), api.MaxPool, 0)
	right(t, plain(5, pool(7), full, full), api.MaxPool, 7, 0, 1)
	for _, p := range [][]int{nil, {}, upTo(api.MaxPool + 1), upTo(500)} {
		wrongAnyhow(t, plain(5, p), 1000, api.ErrMany)
		wrongAnyhow(t, plain(5, pool(0), p), 1000, api.ErrMany)
		wrongAnyhow(t, plain(5, p, pool(0)), 1000, api.ErrMany)
		wrongAnyhow(t, plain(5, pool(0), full, pool(1), p), 1000, api.ErrMany)
	}
}

func TestJ1Resources(t *testing.T) {
	for n := 1; n <= 12; n++ {
		right(t, plain(5, pool(0)), n, 0)
		right(t, plain(5, pool(n-1)), n, n-1)
		for _, r := range []int{n, n + 1, -1, -n, math.MaxInt, math.MinInt} {
			wrongAnyhow(t, plain(5, pool(r)), n, api.ErrNone)
			wrongAnyhow(t, plain(5, pool(0), pool(r)), n, api.ErrNone)
			wrongAnyhow(t, plain(5, pool(r), pool(0)), n, api.ErrNone)
		}
		wrongAnyhow(t, plain(5, pool(0, n)), n, api.ErrNone)
		wrongAnyhow(t, plain(5, pool(-1, 0)), n, api.ErrNone)
	}
	// Of none there is no resource 0.
	for _, n := range []int{0, -1, math.MinInt} {
		for _, r := range []int{0, 1, -1, -2, math.MinInt, math.MaxInt} {
			wrongAnyhow(t, plain(5, pool(r)), n, api.ErrNone)
		}
	}
}

func TestJ1PoolsRise(t *testing.T) {
	right(t, plain(5, pool(0, 1)), 5, 0)
	right(t, plain(5, pool(1, 3, 4)), 5, 1)
	for _, p := range [][]int{{0, 0}, {4, 4}, {1, 0}, {0, 2, 2}, {0, 2, 1}, {1, 2, 3, 0}, {0, 0, 1}, {2, 1, 3}, {3, 4, 3}, {0, 1, 2, 3, 4, 4}} {
		wrongAnyhow(t, plain(5, p), 5, api.ErrForm)
		wrongAnyhow(t, plain(5, pool(0), p), 5, api.ErrForm)
		wrongAnyhow(t, plain(5, p, pool(0)), 5, api.ErrForm)
	}
	// Of two roles the first one's last need not be less than the other one's first.
	right(t, plain(5, pool(3, 4), pool(0, 1)), 5, 3, 0)
	right(t, plain(5, pool(0, 1), pool(0, 1)), 5, 0, 1)
}

func TestJ1TwoFaults(t *testing.T) {
	five := slices.Repeat(roles(pool(0)), api.MaxRoles+1)
	for _, c := range []struct {
		s    api.Service
		want api.Errno
	}{
		// Measures ahead of roles and pools.
		{plain(0), api.ErrRange},
		{plain(0, five...), api.ErrRange},
		{plain(0, nil), api.ErrRange},
		{plain(0, pool(9)), api.ErrRange},
		{plain(api.Minutes+1, pool(1, 0)), api.ErrRange},
		{service(-1, 5, 0, pool(9)), api.ErrRange},
		{service(0, 5, -1, five...), api.ErrRange},
		{service(1, api.Minutes, 0, pool(1, 0)), api.ErrRange},
		// How many roles there are ahead of what is in them.
		{plain(5, append(roles(pool(9)), five...)...), api.ErrMany},
		{plain(5, append(roles(pool(1, 0)), five...)...), api.ErrMany},
		// How many a pool has ahead of what they are.
		{plain(5, slices.Repeat(pool(9), api.MaxPool+1)), api.ErrMany},
		{plain(5, slices.Repeat(pool(0), api.MaxPool+1)), api.ErrMany},
		// One that there is not ahead of one that does not rise.
		{plain(5, pool(1, -1)), api.ErrNone},
		{plain(5, pool(0, -1)), api.ErrNone},
		{plain(5, pool(3, 3)), api.ErrNone},
		{plain(5, pool(3, 2)), api.ErrNone},
		{plain(5, pool(-1, -1)), api.ErrNone},
		// One by one: the first one that is wrong.
		{plain(5, pool(1, 0, 3)), api.ErrForm},
		{plain(5, pool(1, 1, -1)), api.ErrForm},
		{plain(5, pool(0, 3, 1)), api.ErrNone},
		{plain(5, pool(2, 2, 9, 1)), api.ErrForm},
		// Role by role: the first one with which something is wrong.
		{plain(5, pool(9), nil), api.ErrNone},
		{plain(5, nil, pool(9)), api.ErrMany},
		{plain(5, pool(1, 0), nil), api.ErrForm},
		{plain(5, nil, pool(1, 0)), api.ErrMany},
		{plain(5, pool(1, 0), pool(9)), api.ErrForm},
		{plain(5, pool(9), pool(1, 0)), api.ErrNone},
		{plain(5, pool(1, 1), upTo(api.MaxPool+1)), api.ErrForm},
		{plain(5, pool(0), pool(2, 2), pool(9), nil), api.ErrForm},
		{plain(5, pool(0), pool(1, 2), pool(-1), nil), api.ErrNone},
		{plain(5, pool(0), pool(1, 2), nil, pool(-1)), api.ErrMany},
	} {
		wrongAnyhow(t, c.s, 3, c.want)
	}
}

func TestJ1ByTheDocumentsWords(t *testing.T) {
	r := rand.New(rand.NewSource(31))
	edge := func(low int) int {
		l := []int{low - 1, low, low + 1, 5, 5, 5, 480, 481, api.Minutes - 10, api.Minutes, api.Minutes + 1}
		return l[r.Intn(len(l))]
	}
	seen := map[api.Errno]int{}
	for range 20000 {
		s := plain(5)
		if r.Intn(3) == 0 {
			s = service(edge(0), edge(1), edge(0))
		}
		for range r.Intn(api.MaxRoles+r.Intn(2)) + r.Intn(2) {
			p, at := []int(nil), -r.Intn(30)/29
			for range r.Intn(api.MaxPool+1) + r.Intn(2) {
				p = append(p, at)
				at += 1 + r.Intn(2) - r.Intn(9)/8
			}
			s.Roles = append(s.Roles, p)
		}
		resources := r.Intn(20)
		want := plainWrong(s, resources)
		wrong(t, s, resources, want)
		seen[want]++
	}
	for _, err := range []api.Errno{api.OK, api.ErrRange, api.ErrMany, api.ErrNone, api.ErrForm} {
		if seen[err] < 300 {
			t.Errorf("there were %v", seen)
		}
	}
}

func TestJ2OneRole(t *testing.T) {
	had(t, plain(30, pool(0)), slot(0, 540, 0), day(of(540, 1020)))
	had(t, plain(480, pool(0)), slot(0, 540, 0), day(of(540, 1020)))
	fails(t, plain(481, pool(0)), api.ErrSlot, day(of(540, 1020)))
	// What is free sooner is too short.
	had(t, plain(30, pool(0)), slot(0, 700, 0), day(of(100, 129, 300, 329, 700, 730)))
	had(t, plain(29, pool(0)), slot(0, 100, 0), day(of(100, 129, 300, 329, 700, 730)))
	// Whoever is free first, and of two that are, the lesser one.
	had(t, plain(30, pool(0, 1, 2)), slot(0, 500, 2), day(of(600, 700), of(510, 700), of(500, 700)))
	had(t, plain(30, pool(0, 1, 2)), slot(0, 500, 1), day(of(600, 700), of(500, 700), of(500, 900)))
	had(t, plain(30, pool(0, 2)), slot(0, 510, 2), day(of(600, 700), of(500, 700), of(510, 900)))
	// The lesser one is there sooner, and leaves too soon.
	had(t, plain(30, pool(0, 1)), slot(0, 505, 1), day(of(490, 519), of(505, 600)))
	// Those of no pool mean nothing.
	fails(t, plain(30, pool(1)), api.ErrSlot, day(always(), of(), always()))
}

func TestJ2SeveralRoles(t *testing.T) {
	// From where all of them are free together.
	had(t, plain(30, pool(0), pool(1)), slot(0, 570, 0, 1), day(of(540, 600), of(570, 700)))
	had(t, plain(30, pool(1), pool(0)), slot(0, 570, 1, 0), day(of(540, 600), of(570, 700)))
	fails(t, plain(31, pool(0), pool(1)), api.ErrSlot, day(of(540, 600), of(570, 700)))
	had(t, plain(10, pool(0), pool(1), pool(2)), slot(0, 300, 0, 1, 2), day(of(100, 400), of(200, 310), of(50, 60, 300, 350)))
	// They are free one after the other, and only then together.
	had(t, plain(20, pool(0), pool(1)), slot(0, 80, 0, 1), day(of(0, 30, 60, 100), of(30, 60, 80, 200)))
	// Several of each.
	had(t, plain(30, pool(0, 1), pool(2, 3)), slot(0, 120, 1, 3), day(of(0, 60), of(110, 200), of(61, 121), of(120, 200)))
	had(t, plain(60, upTo(8), upTo(8), upTo(8), upTo(8)), slot(0, 60, 2, 3, 6, 7),
		day(of(0, 60), of(0, 60), of(60, 120), of(60, 120), of(), of(61, 200), of(60, 900), of(0, 400)))
}

func TestJ2NoneTwice(t *testing.T) {
	// The first one of a pool is taken by another role.
	had(t, plain(30, pool(0, 1), pool(0, 1)), slot(0, 0, 0, 1), open(2))
	had(t, plain(30, pool(0, 1, 2), pool(0, 1, 2), pool(0, 1, 2)), slot(0, 0, 0, 1, 2), open(3))
	had(t, plain(30, pool(1), pool(0, 1, 2), pool(0, 1, 2)), slot(0, 0, 1, 0, 2), open(3))
	fails(t, plain(30, pool(0), pool(0)), api.ErrSlot, open(3), open(3))
	fails(t, plain(30, pool(0, 1), pool(0, 1), pool(0, 1)), api.ErrSlot, open(2), open(5))
	fails(t, plain(30, pool(2), pool(0, 1), pool(2)), api.ErrSlot, open(3))
	// Both are free on their own; another one comes later.
	had(t, plain(30, pool(0, 1), pool(0, 1)), slot(0, 300, 0, 1), day(of(100, 400), of(300, 400)))
	fails(t, plain(30, pool(0, 1), pool(0, 1)), api.ErrSlot, day(of(100, 320), of(300, 400)))
}

func TestJ2OneIsLeftForALaterRole(t *testing.T) {
	had(t, plain(30, pool(0, 1), pool(0)), slot(0, 0, 1, 0), open(2))
	had(t, plain(30, pool(1, 2), pool(1)), slot(0, 0, 2, 1), open(3))
	had(t, plain(30, pool(0, 1, 2), pool(0, 1), pool(0)), slot(0, 0, 2, 1, 0), open(3))
	had(t, plain(30, pool(0, 1), pool(0, 2), pool(0)), slot(0, 0, 1, 2, 0), open(3))
	had(t, plain(30, pool(0, 1, 2, 3), pool(0, 1, 2), pool(0, 1), pool(0)), slot(0, 0, 3, 2, 1, 0), open(4))
	// The second role has to take another one for the last role's sake, and the first one keeps its own.
	had(t, plain(30, pool(0, 3), pool(1, 2), pool(5), pool(1)), slot(0, 0, 0, 2, 5, 1), open(6))
	// Only as things are at that time: the others of a pool are not free.
	had(t, plain(30, pool(0, 1), pool(0, 2)), slot(0, 100, 1, 0), day(of(100, 200), of(100, 200), of(200, 300)))
	had(t, plain(30, pool(0, 1), pool(0, 2)), slot(0, 100, 0, 2), day(of(100, 200), of(100, 200), of(100, 300)))
	// A choice that leaves none, and no other one at that time: a later time.
	had(t, plain(30, pool(0, 1), pool(0)), slot(0, 150, 1, 0), day(of(100, 200), of(150, 300)))
}

func TestJ2TheLeast(t *testing.T) {
	// By Day, however late on it, and whoever it is.
	had(t, plain(30, pool(0, 1), pool(2, 3)), slot(0, 1410, 1, 3), day(of(), always(), of(), of(1410, 1440)), open(4))
	// By Minute, whoever it is.
	had(t, plain(30, pool(0, 1), pool(2, 3)), slot(0, 99, 1, 3), day(of(100, 900), of(99, 900), of(100, 900), of(99, 900)))
	// By the first role's resource, whoever else it is.
	had(t, plain(30, pool(0, 1), pool(0, 5)), slot(0, 0, 0, 5), open(6))
	had(t, plain(30, pool(2, 3), pool(0, 1)), slot(0, 0, 2, 0), open(4))
	// By the second one, then by the third one.
	had(t, plain(30, pool(3), pool(1, 2), pool(1, 4)), slot(0, 0, 3, 1, 4), open(5))
	had(t, plain(30, pool(3), pool(0), pool(2, 4)), slot(0, 0, 3, 0, 2), open(5))
	// Not by all that fill the roles together: 0 and 3 are ahead of 1 and 2.
	had(t, plain(30, pool(0, 1), pool(2, 3)), slot(0, 60, 0, 3), day(of(60, 90), of(60, 90), of(70, 99), of(60, 90)))
}

func TestJ2WithinTheDay(t *testing.T) {
	// At the first minute.
	had(t, plain(30, pool(0)), slot(0, 0, 0), day(of(0, 30)))
	had(t, plain(1, pool(0)), slot(0, 0, 0), day(of(0, 1)))
	// At the last ones.
	had(t, plain(1, pool(0)), slot(0, 1439, 0), day(of(1439, 1440)))
	had(t, plain(30, pool(0)), slot(0, 1410, 0), day(of(1410, 1440)))
	fails(t, plain(30, pool(0)), api.ErrSlot, day(of(1411, 1440)))
	fails(t, plain(30, pool(0)), api.ErrSlot, day(of(1411, 1440)), day(of(0, 29)))
	// All day.
	had(t, plain(api.Minutes, pool(0)), slot(0, 0, 0), day(always()))
	had(t, plain(api.Minutes, pool(0)), slot(1, 0, 0), day(of(1, 1440)), day(always()))
	fails(t, plain(api.Minutes, pool(0)), api.ErrSlot, day(of(0, 1439)), day(of(1, 1440)), day(of(0, 700, 701, 1440)))
	// Within a word, and across words.
	for _, from := range []int{1, 62, 63, 64, 65, 127, 128, 1375, 1376, 1407, 1408, 1409} {
		had(t, plain(2, pool(0)), slot(0, from, 0), day(of(from, from+2)))
		had(t, plain(30, pool(0)), slot(0, from, 0), day(of(from, from+30)))
		fails(t, plain(31, pool(0)), api.ErrSlot, day(of(from, from+30)))
	}
}

func TestJ2AheadAndBehind(t *testing.T) {
	// As soon as Before allows.
	had(t, service(10, 30, 5, pool(0)), slot(0, 10, 0), open(1))
	had(t, service(10, 30, 5, pool(0)), slot(0, 10, 0), day(of(0, 45)))
	had(t, service(10, 30, 5, pool(0)), slot(0, 550, 0), day(of(540, 585)))
	fails(t, service(10, 30, 5, pool(0)), api.ErrSlot, day(of(540, 584)))
	fails(t, service(10, 30, 5, pool(0)), api.ErrSlot, day(of(0, 44)))
	// What is ahead may not lie ahead of the day, nor what is behind behind it.
	fails(t, service(10, 30, 0, pool(0)), api.ErrSlot, day(of(0, 39)))
	fails(t, service(0, 30, 10, pool(0)), api.ErrSlot, day(of(1401, 1440)))
	had(t, service(0, 30, 10, pool(0)), slot(0, 1400, 0), day(of(1400, 1440)))
	had(t, service(10, 30, 5, pool(0)), slot(0, 1405, 0), day(of(1395, 1440)))
	fails(t, service(10, 30, 5, pool(0)), api.ErrSlot, day(of(1396, 1440)))
	// The last of the day, and the whole of it.
	had(t, service(api.Minutes-1, 1, 0, pool(0)), slot(0, api.Minutes-1, 0), open(1))
	had(t, service(0, 1, api.Minutes-1, pool(0)), slot(0, 0, 0), open(1))
	had(t, service(480, 480, 480, pool(0)), slot(0, 480, 0), open(1))
	fails(t, service(480, 480, 480, pool(0)), api.ErrSlot, day(of(0, 1439)), day(of(1, 1440)))
	// Each one is free ahead and behind, too.
	had(t, service(10, 20, 10, pool(0), pool(1)), slot(0, 110, 0, 1), day(of(0, 140), of(100, 200)))
	fails(t, service(10, 20, 10, pool(0), pool(1)), api.ErrSlot, day(of(0, 139), of(100, 200)))
	had(t, service(15, 30, 0, pool(0), pool(1)), slot(0, 65, 0, 1), day(of(0, 40, 50, 95), of(20, 300)))
	had(t, service(0, 30, 15, pool(0), pool(1)), slot(0, 50, 0, 1), day(of(0, 40, 50, 95), of(20, 300)))
}

func TestJ2BitsBehindTheLastMinute(t *testing.T) {
	had(t, plain(1, pool(0)), slot(0, 1439, 0), day(dirty(of(1439, 1440))))
	fails(t, plain(2, pool(0)), api.ErrSlot, day(dirty(of(1439, 1440))))
	fails(t, service(0, 1, 1, pool(0)), api.ErrSlot, day(dirty(of(1439, 1440))))
	fails(t, plain(1, pool(0)), api.ErrSlot, day(dirty(of())))
	had(t, plain(40, pool(0, 1)), slot(0, 900, 1), day(dirty(of(1401, 1440)), dirty(of(900, 940))))
}

func TestJ2LaterDays(t *testing.T) {
	s := service(5, 30, 5, pool(0, 1), pool(1, 2))
	days := slices.Repeat([][]api.Mask{shut(3)}, api.MaxWindow)
	fails(t, s, api.ErrSlot, days...)
	for at := range days {
		l := slices.Clone(days)
		l[at] = day(of(500, 540), of(), of(100, 140, 400, 600))
		had(t, s, slot(at, 505, 0, 2), l...)
		// Days behind it, on which it is sooner, are later.
		for behind := at + 1; behind < len(l); behind++ {
			l[behind] = open(3)
		}
		had(t, s, slot(at, 505, 0, 2), l...)
	}
	// Each day on its own: who is free today is not tomorrow, and no slot goes on past midnight.
	fails(t, plain(30, pool(0), pool(1)), api.ErrSlot, day(always(), of()), day(of(), always()))
	fails(t, plain(30, pool(0)), api.ErrSlot, day(of(1420, 1440)), day(of(0, 20)))
	// A day may tell of more than the others do.
	had(t, plain(30, pool(0)), slot(1, 7, 0), shut(1), day(of(7, 40), always(), always()))
}

func TestJ2HowManyDays(t *testing.T) {
	s := plain(30, pool(0))
	for _, l := range [][][]api.Mask{nil, {}, make([][]api.Mask, 0, 9)} {
		fails(t, s, api.ErrSlot, l...)
		if got, err := match.Find(s, l); err != api.ErrSlot || len(got.Who) != 0 {
			t.Errorf("of no days comes %v, %d", got, err)
		}
	}
	days := slices.Repeat([][]api.Mask{shut(1)}, api.MaxWindow-1)
	fails(t, s, api.ErrSlot, days...)
	days = append(days, open(1))
	had(t, s, slot(api.MaxWindow-1, 0, 0), days...)
	fails(t, s, api.ErrMany, append(days, open(1))...)
	fails(t, s, api.ErrMany, slices.Repeat([][]api.Mask{open(1)}, api.MaxWindow+1)...)
	fails(t, s, api.ErrMany, slices.Repeat([][]api.Mask{open(1)}, 1000)...)
	// Ahead of what is wrong with the service.
	for _, s := range []api.Service{{}, plain(0, pool(0)), plain(5), plain(5, nil), plain(5, pool(9)), plain(5, pool(1, 0)), plain(5, pool(0), pool(0))} {
		fails(t, s, api.ErrMany, make([][]api.Mask, api.MaxWindow+1)...)
		fails(t, s, api.ErrMany, slices.Repeat([][]api.Mask{open(3)}, api.MaxWindow+1)...)
	}
}

func TestJ2OfNoDaysNothingIsWrong(t *testing.T) {
	for _, s := range []api.Service{{}, plain(0, pool(0)), plain(5), plain(5, nil), plain(5, pool(9)), plain(5, pool(1, 0)), service(-1, 5, 0, pool(0))} {
		fails(t, s, api.ErrSlot)
	}
}

func TestJ2DaysThatTellDifferentNumbers(t *testing.T) {
	s := plain(30, pool(0, 2))
	had(t, s, slot(0, 0, 0), open(3), open(4), open(9))
	// A later day tells too few, where an earlier one has a slot.
	fails(t, s, api.ErrNone, open(3), open(2))
	fails(t, s, api.ErrNone, open(3), open(3), nil)
	fails(t, s, api.ErrNone, open(2), open(3))
	fails(t, s, api.ErrNone, shut(3), open(3), open(0))
	long := slices.Repeat([][]api.Mask{open(3)}, api.MaxWindow)
	long[api.MaxWindow-1] = open(2)
	fails(t, s, api.ErrNone, long...)
	// Day by day: what is wrong as of the first day, though another fault would be told as of a later one.
	falls := plain(30, pool(0, 2, 1))
	fails(t, falls, api.ErrForm, open(3), open(2))
	fails(t, falls, api.ErrNone, open(2), open(3))
	later := plain(30, pool(0, 1), pool(2), nil)
	fails(t, later, api.ErrMany, open(3), open(2))
	fails(t, later, api.ErrNone, open(2), open(3))
	fails(t, later, api.ErrMany, open(3), open(3), nil)
}

func TestJ2OfRules(t *testing.T) {
	l, fault := parse.Parse("rule a = weekly mon,tue: 09:00-17:00; rule b = a - lunch; rule lunch = 12:00-13:00; rule c = dates 2026-11-17: 11:30-14:00;")
	if fault != (api.Fault{}) {
		t.Fatal(fault)
	}
	var days [][]api.Mask
	for d := 9815; d < 9819; d++ { // from November 15, 2026, a Sunday, on
		free, wrong := mean.All(l, d)
		if wrong != (api.Fault{}) {
			t.Fatal(wrong)
		}
		days = append(days, free)
	}
	had(t, plain(30, pool(0)), slot(1, 540, 0), days...)
	had(t, plain(30, pool(0), pool(1)), slot(1, 540, 0, 1), days...)
	had(t, plain(60, pool(1), pool(3)), slot(2, 780, 1, 3), days...)
	had(t, plain(60, pool(0, 2), pool(3)), slot(2, 690, 0, 3), days...)
	had(t, service(0, 60, 60, pool(2, 3)), slot(2, 690, 3), days...)
	had(t, plain(30, pool(2)), slot(0, 720, 2), days...)
	fails(t, plain(481, pool(0, 1, 2, 3)), api.ErrSlot, days...)
}

// someMask is free now and then: in long spans, or in many short ones.
func someMask(r *rand.Rand, longest int) api.Mask {
	var l []int
	for at := r.Intn(longest) - longest/4; at < api.Minutes; at += 1 + r.Intn(longest) {
		l = append(l, at, at+1+r.Intn(longest))
		at = l[len(l)-1]
	}
	m := of(l...)
	if r.Intn(2) == 0 {
		m = dirty(m)
	}
	return m
}

func somePool(r *rand.Rand, resources, most int) []int {
	l := r.Perm(resources)[:1+r.Intn(min(resources, most))]
	slices.Sort(l)
	return l
}

func TestJ2ByTheDocumentsWords(t *testing.T) {
	r := rand.New(rand.NewSource(32))
	seen := map[string]int{}
	for range 1500 {
		longest := []int{4, 40, 400, 1300}[r.Intn(4)]
		resources := 1 + r.Intn(6)
		var days [][]api.Mask
		for range r.Intn(4) {
			d := shut(resources + r.Intn(2))
			for i := range d {
				if r.Intn(4) > 0 {
					d[i] = someMask(r, longest)
				}
			}
			days = append(days, d)
		}
		s := service(r.Intn(longest)/4, 1+r.Intn(longest)/2, r.Intn(longest)/4)
		for range 1 + r.Intn(api.MaxRoles) {
			s.Roles = append(s.Roles, somePool(r, resources, 3))
		}
		want, err := plainFind(s, days)
		answers(t, s, days, want, err)
		switch {
		case err != api.OK:
			seen["none"]++
		case want.Day > 0:
			seen["later day"]++
		case want.Minute > s.Before:
			seen["later minute"]++
		default:
			seen["at once"]++
		}
		if err == api.OK && !slices.IsSorted(want.Who) {
			seen["falling"]++
		}
	}
	for _, s := range []string{"none", "later day", "later minute", "at once", "falling"} {
		if seen[s] < 50 {
			t.Errorf("there were %v", seen)
		}
	}
}

func TestJ2TheMostThereCanBe(t *testing.T) {
	// Two roles that one alone can fill, behind two that all can: nothing can be had, at any of very many places.
	var every []int
	for at := 0; at < api.Minutes; at += 2 {
		every = append(every, at, at+1)
	}
	d := slices.Repeat(day(of(every...)), 9)
	for i := range d {
		if i%2 == 1 {
			d[i] = masks.Diff(always(), d[i])
		}
	}
	days := slices.Repeat([][]api.Mask{d}, api.MaxWindow)
	fails(t, plain(1, upTo(8), upTo(8), pool(8), pool(8)), api.ErrSlot, days...)
	days[api.MaxWindow-1] = open(10)
	had(t, plain(1, upTo(8), upTo(8), upTo(8), pool(0, 2, 4, 6)), slot(0, 0, 0, 2, 4, 6), days...)
	had(t, plain(2, upTo(8), upTo(8), upTo(8), pool(0)), slot(api.MaxWindow-1, 0, 1, 2, 3, 0), days...)
	fails(t, plain(1, upTo(8), upTo(8), upTo(8), upTo(8)), api.ErrNone, append(slices.Clone(days[:api.MaxWindow-1]), open(7))...)
}
