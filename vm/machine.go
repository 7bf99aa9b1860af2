package vm

import (
	"slotrules/api"
	"slotrules/civil"
	"slotrules/masks"
)

// machine runs code with which nothing is wrong, on a day; steps: how many instructions were come to.
type machine struct {
	codes []api.Code
	day   int
	stack []api.Mask
	steps int
}

func (m *machine) put(mask api.Mask) { m.stack = append(m.stack, mask) }

func (m *machine) take() api.Mask {
	last := len(m.stack) - 1
	mask := m.stack[last]
	m.stack = m.stack[:last]
	return mask
}

// run leaves one mask more. No code calls itself, and none goes back, so this ends.
func (m *machine) run(rule int) {
	code := m.codes[rule].Ins
	for at := 0; at < len(code); {
		m.steps++
		at = m.step(code[at], at)
	}
}

// step does an instruction, and tells the place that comes next.
func (m *machine) step(ins api.Ins, at int) int {
	switch ins.Op {
	case api.ISpans:
		m.put(masks.Of(ins.Spans))
	case api.IUnion:
		m.join(masks.Union)
	case api.IDiff:
		m.join(masks.Diff)
	case api.IBoth:
		m.join(masks.Both)
	case api.IShift:
		m.put(masks.Shift(m.take(), ins.A))
	case api.ICall:
		m.run(ins.A)
	case api.IWeek, api.IDates:
		if !m.isDayOf(ins) {
			m.put(api.Mask{})
			return ins.To
		}
	}
	return at + 1
}

// join puts what becomes of the lower and the upper mask.
func (m *machine) join(op func(lower, upper api.Mask) api.Mask) {
	upper := m.take()
	lower := m.take()
	m.put(op(lower, upper))
}

// isDayOf tells whether the day is one of a guard's.
func (m *machine) isDayOf(guard api.Ins) bool {
	if guard.Op == api.IWeek {
		return guard.A>>civil.Week(m.day)&1 == 1
	}
	return guard.A <= m.day && m.day <= guard.B
}
