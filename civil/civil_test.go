package civil_test

import (
	"math"
	"testing"
	"time"

	"slotrules/api"
	"slotrules/civil"
)

func date(year, month, day int) api.Date { return api.Date{Year: year, Month: month, Day: day} }

func TestA1Leap(t *testing.T) {
	for _, y := range []int{0, 4, 96, 104, 400, 800, 1600, 1996, 2000, 2004, 2024, 2096, 2104, 2396, 2400, 4000000} {
		if !civil.Leap(y) {
			t.Errorf("Leap(%d) is false", y)
		}
	}
	for _, y := range []int{1, 2, 3, 5, 99, 100, 200, 300, 401, 1900, 1999, 2001, 2002, 2003, 2026, 2100, 2200, 2300, 2399, 4000100, math.MaxInt} {
		if civil.Leap(y) {
			t.Errorf("Leap(%d) is true", y)
		}
	}
}

func TestA1LeapBelowYear0(t *testing.T) {
	for _, y := range []int{-1, -4, -100, -400, math.MinInt} {
		if civil.Leap(y) {
			t.Errorf("Leap(%d) is true", y)
		}
	}
}

func TestA1Length(t *testing.T) {
	common := []int{31, 28, 31, 30, 31, 30, 31, 31, 30, 31, 30, 31}
	leap := []int{31, 29, 31, 30, 31, 30, 31, 31, 30, 31, 30, 31}
	years := map[int][]int{
		2000: leap, 2004: leap, 2024: leap, 2096: leap, 2396: leap,
		2001: common, 2026: common, 2100: common, 2200: common, 2300: common, 2399: common,
	}
	for y, want := range years {
		for i, n := range want {
			if got := civil.Length(y, i+1); got != n {
				t.Errorf("Length(%d, %d) is %d, not %d", y, i+1, got, n)
			}
		}
	}
}

func TestA1LengthOfNoMonth(t *testing.T) {
	for _, y := range []int{math.MinInt, -2000, -1, 0, 1, 1996, 1999, 2400, 2401, math.MaxInt} {
		for m := -1; m <= 14; m++ {
			if got := civil.Length(y, m); got != 0 {
				t.Errorf("Length(%d, %d) is %d, not 0", y, m, got)
			}
		}
	}
	for _, y := range []int{2000, 2026, 2399} {
		for _, m := range []int{math.MinInt, -12, -2, -1, 0, 13, 14, 24, math.MaxInt} {
			if got := civil.Length(y, m); got != 0 {
				t.Errorf("Length(%d, %d) is %d, not 0", y, m, got)
			}
		}
	}
}

func TestA1NumberAndOfAndWeek(t *testing.T) {
	for _, c := range []struct {
		d         api.Date
		day, week int
	}{
		{date(2000, 1, 1), 0, api.Saturday},
		{date(2000, 1, 2), 1, api.Sunday},
		{date(2000, 1, 3), 2, api.Monday},
		{date(2000, 1, 31), 30, api.Monday},
		{date(2000, 2, 1), 31, api.Tuesday},
		{date(2000, 2, 28), 58, api.Monday},
		{date(2000, 2, 29), 59, api.Tuesday},
		{date(2000, 3, 1), 60, api.Wednesday},
		{date(2000, 12, 31), 365, api.Sunday},
		{date(2001, 1, 1), 366, api.Monday},
		{date(2001, 2, 28), 424, api.Wednesday},
		{date(2001, 3, 1), 425, api.Thursday},
		{date(2003, 12, 31), 1460, api.Wednesday},
		{date(2004, 1, 1), 1461, api.Thursday},
		{date(2026, 11, 15), 9815, api.Sunday},
		{date(2099, 12, 31), 36524, api.Thursday},
		{date(2100, 1, 1), 36525, api.Friday},
		{date(2100, 2, 28), 36583, api.Sunday},
		{date(2100, 3, 1), 36584, api.Monday},
		{date(2200, 1, 1), 73049, api.Wednesday},
		{date(2300, 1, 1), 109573, api.Monday},
		{date(2399, 1, 1), 145732, api.Friday},
		{date(2399, 12, 31), api.MaxDays - 1, api.Friday},
	} {
		if n, err := civil.Number(c.d); n != c.day || err != api.OK {
			t.Errorf("Number(%v) is %d, %d, not %d", c.d, n, err, c.day)
		}
		if d, err := civil.Of(c.day); d != c.d || err != api.OK {
			t.Errorf("Of(%d) is %v, %d, not %v", c.day, d, err, c.d)
		}
		if w := civil.Week(c.day); w != c.week {
			t.Errorf("Week(%d) is %d, not %d", c.day, w, c.week)
		}
	}
}

// The library's calendar is another's work, so it tells of mistakes that Of and Number share.
func TestA1EveryDayAsTheLibraryHasIt(t *testing.T) {
	first := time.Date(2000, time.January, 1, 0, 0, 0, 0, time.UTC)
	for n := range api.MaxDays {
		day := first.AddDate(0, 0, n)
		want := date(day.Year(), int(day.Month()), day.Day())
		if d, err := civil.Of(n); d != want || err != api.OK {
			t.Fatalf("Of(%d) is %v, %d, not %v", n, d, err, want)
		}
		if got, err := civil.Number(want); got != n || err != api.OK {
			t.Fatalf("Number(%v) is %d, %d, not %d", want, got, err, n)
		}
		if w := (int(day.Weekday()) + 6) % 7; civil.Week(n) != w {
			t.Fatalf("Week(%d) is %d, not %d", n, civil.Week(n), w)
		}
	}
}

func TestA1NumberOfNoDate(t *testing.T) {
	for _, d := range []api.Date{
		{}, date(0, 1, 1), date(1999, 12, 31), date(2400, 1, 1), date(-2000, 1, 1),
		date(2000, 0, 1), date(2000, 13, 1), date(2000, -1, 1), date(2399, 13, 1),
		date(2000, 1, 0), date(2000, 1, -1), date(2000, 1, 32), date(2399, 12, 32), date(2399, 12, 0),
		date(2000, 2, 30), date(2001, 2, 29), date(2004, 2, 30), date(2100, 2, 29), date(2200, 2, 29), date(2300, 2, 29),
		date(2026, 4, 31), date(2026, 6, 31), date(2026, 9, 31), date(2026, 11, 31),
		date(math.MinInt, 1, 1), date(math.MaxInt, 1, 1), date(2000, math.MinInt, 1), date(2000, math.MaxInt, 1),
		date(2000, 1, math.MinInt), date(2000, 1, math.MaxInt), date(1999, 0, 0),
		date(math.MaxInt, math.MaxInt, math.MaxInt), date(math.MinInt, math.MinInt, math.MinInt),
	} {
		if n, err := civil.Number(d); n != 0 || err != api.ErrRange {
			t.Errorf("Number(%v) is %d, %d, not 0, ErrRange", d, n, err)
		}
	}
}

func TestA1NumberTakesJustTheDatesThatThereAre(t *testing.T) {
	next := 0
	for y := 1999; y <= 2400; y++ {
		for m := 0; m <= 13; m++ {
			for d := -1; d <= 33; d++ {
				n, err := civil.Number(date(y, m, d))
				if err == api.ErrRange && n == 0 {
					continue
				}
				if err != api.OK || n != next {
					t.Fatalf("Number(%d-%d-%d) is %d, %d, not %d", y, m, d, n, err, next)
				}
				next++
			}
		}
	}
	if next != api.MaxDays {
		t.Errorf("there are %d dates, not %d", next, api.MaxDays)
	}
}

func TestA1OfNoDay(t *testing.T) {
	for _, n := range []int{math.MinInt, -api.MaxDays, -366, -2, -1, api.MaxDays, api.MaxDays + 1, 2 * api.MaxDays, math.MaxInt} {
		if d, err := civil.Of(n); d != (api.Date{}) || err != api.ErrRange {
			t.Errorf("Of(%d) is %v, %d, not empty, ErrRange", n, d, err)
		}
		if w := civil.Week(n); w != 0 {
			t.Errorf("Week(%d) is %d, not 0", n, w)
		}
	}
}
