// Package civil has days, dates and days of the week: see doc/01-civil.md.
package civil

import "slotrules/api"

const (
	firstYear = 2000
	lastYear  = 2399
	february  = 2
	december  = 12
)

// lengths has the months of years that are no leap years, January first.
var lengths = [december]int{31, 28, 31, 30, 31, 30, 31, 31, 30, 31, 30, 31}

// Leap tells whether a year has a day more; the document speaks of years from 0 on, so those below have none.
func Leap(year int) bool {
	return year >= 0 && year%4 == 0 && (year%100 != 0 || year%400 == 0)
}

// Length tells how many days a month has: 0, if there is no such month from 2000 to 2399.
func Length(year, month int) int {
	if year < firstYear || year > lastYear || month < 1 || month > december {
		return 0
	}
	if month == february && Leap(year) {
		return lengths[month-1] + 1
	}
	return lengths[month-1]
}

// Number tells how many days a date is behind the first one of 2000.
func Number(d api.Date) (int, api.Errno) {
	// A month that there is not has Length 0, so that this refuses wrong years and months too.
	if d.Day < 1 || d.Day > Length(d.Year, d.Month) {
		return 0, api.ErrRange
	}
	return yearStart(d.Year) + monthStart(d.Year, d.Month) + d.Day - 1, api.OK
}

// Of tells the date whose Number a day is.
func Of(day int) (api.Date, api.Errno) {
	if !isDay(day) {
		return api.Date{}, api.ErrRange
	}
	year := yearOf(day)
	rest := day - yearStart(year)
	month := monthOf(year, rest)
	return api.Date{Year: year, Month: month, Day: rest - monthStart(year, month) + 1}, api.OK
}

// Week tells a day's day of the week; of what is no day, 0.
func Week(day int) int {
	if !isDay(day) {
		return 0
	}
	return (day + api.Saturday) % 7
}

func isDay(day int) bool { return day >= 0 && day < api.MaxDays }

// yearStart is the Number of a year's first day, of years from 2000 to 2400.
func yearStart(year int) int {
	n := year - firstYear
	// 2000 is a leap year itself: each kind is counted from it on, below year, so the divisions round up.
	leaps := (n+3)/4 - (n+99)/100 + (n+399)/400
	return 365*n + leaps
}

// monthStart is how many days of the year are ahead of a month.
func monthStart(year, month int) int {
	days := 0
	for m := 1; m < month; m++ {
		days += Length(year, m)
	}
	return days
}

func yearOf(day int) int {
	// With 366 days to every year this is never too late a year, and at most one too early.
	year := firstYear + day/366
	if yearStart(year+1) <= day {
		year++
	}
	return year
}

// monthOf is the month in which a year's day lies, days from 0 on.
func monthOf(year, day int) int {
	month := 1
	for month < december && monthStart(year, month+1) <= day {
		month++
	}
	return month
}
