package parse

import (
	"strconv"
	"strings"

	"slotrules/api"
	"slotrules/civil"
)

// How tightly an expression holds together when it is read: where a tighter one must stand, it needs brackets.
const (
	asSum    = iota
	asTerm   // no sum
	asFactor // no term either
	asShifts // nor what takes a shift behind it into itself
)

const hour = 60

// Print makes a text of rules.
func Print(l []api.Rule) (string, api.Fault) {
	if f := Wrong(l); f.Err != api.OK {
		return "", f
	}
	var b strings.Builder
	for _, rule := range l {
		b.WriteString("rule " + rule.Name + " = ")
		write(&b, rule.Expr, asSum)
		b.WriteString(";\n")
	}
	if b.Len() > api.MaxText {
		return "", api.Fault{Err: api.ErrMuch}
	}
	return b.String(), api.Fault{}
}

// hold is how tightly an expression of that kind holds together.
func hold(kind int) int {
	switch kind {
	case api.EUnion, api.EDiff:
		return asSum
	case api.EBoth:
		return asTerm
	case api.EWeek, api.EDates:
		return asFactor
	}
	return asShifts
}

// write writes an expression where one must stand that holds at least so tightly.
func write(b *strings.Builder, e api.Expr, least int) {
	if hold(e.Kind) >= least {
		writeBare(b, e)
		return
	}
	b.WriteString("(")
	writeBare(b, e)
	b.WriteString(")")
}

func writeBare(b *strings.Builder, e api.Expr) {
	switch e.Kind {
	case api.ENever:
		b.WriteString("never")
	case api.EAlways:
		b.WriteString("always")
	case api.ESpan:
		b.WriteString(timeText(e.A) + "-" + timeText(e.B))
	case api.EName:
		b.WriteString(e.Name)
	case api.EUnion:
		writePair(b, e, " + ")
	case api.EDiff:
		writePair(b, e, " - ")
	case api.EBoth:
		writePair(b, e, " & ")
	case api.EShift:
		write(b, e.Kids[0], asShifts)
		b.WriteString(" shift " + strconv.Itoa(e.A))
	case api.EWeek:
		b.WriteString("weekly " + daysText(e.A) + ": ")
		write(b, e.Kids[0], asFactor)
	case api.EDates:
		b.WriteString("dates " + datesText(e.A, e.B) + ": ")
		write(b, e.Kids[0], asFactor)
	}
}

// writePair writes two kids: they are read from the left, so the right one must hold tighter than the whole.
func writePair(b *strings.Builder, e api.Expr, between string) {
	write(b, e.Kids[0], hold(e.Kind))
	b.WriteString(between)
	write(b, e.Kids[1], hold(e.Kind)+1)
}

func daysText(bits int) string {
	var days []string
	for day, name := range dayNames {
		if bits&(1<<day) != 0 {
			days = append(days, name)
		}
	}
	return strings.Join(days, ",")
}

func datesText(first, last int) string {
	if first == last {
		return dateText(first)
	}
	return dateText(first) + ".." + dateText(last)
}

func dateText(day int) string {
	// No error: Wrong has looked at the day.
	d, _ := civil.Of(day)
	return padded(d.Year, 4) + "-" + padded(d.Month, 2) + "-" + padded(d.Day, 2)
}

func timeText(minute int) string {
	return padded(minute/hour, 2) + ":" + padded(minute%hour, 2)
}

// padded writes a number with noughts ahead, if it has fewer digits.
func padded(n, digits int) string {
	s := strconv.Itoa(n)
	return strings.Repeat("0", max(0, digits-len(s))) + s
}
