package vm_test

import (
	"math/rand"
	"slices"

	"slotrules/api"
	"slotrules/civil"
)

func spansOf(l ...api.Span) api.Ins { return api.Ins{Op: api.ISpans, Spans: l} }
func weekTo(days, to int) api.Ins   { return api.Ins{Op: api.IWeek, A: days, To: to} }
func datesTo(a, b, to int) api.Ins  { return api.Ins{Op: api.IDates, A: a, B: b, To: to} }
func by(n int) api.Ins              { return api.Ins{Op: api.IShift, A: n} }
func call(rule int) api.Ins         { return api.Ins{Op: api.ICall, A: rule} }
func sign(op int) api.Ins           { return api.Ins{Op: op} }

// code is a rule's code that says these.
func code(high, steps int, l ...api.Ins) api.Code {
	return api.Code{Ins: l, High: high, Steps: steps}
}

// repeated is so many of one instruction.
func repeated(n int, ins api.Ins) []api.Ins {
	return slices.Repeat([]api.Ins{ins}, n)
}

// piled is so many spans, and the unions that make one of them.
func piled(n int) []api.Ins {
	return append(repeated(n, nine), repeated(n-1, sign(api.IUnion))...)
}

// longest is code of so many instructions and steps, one high.
func longest(n int) api.Code {
	return code(1, n, append([]api.Ins{nine}, repeated(n-1, by(1))...)...)
}

// plain is whether there is each minute: what a mask is, without bits.
type plain [api.Minutes]bool

func (p plain) mask() api.Mask {
	var m api.Mask
	for minute, has := range p {
		if has {
			m[minute/64] |= 1 << (minute % 64)
		}
	}
	return m
}

// each makes minutes of whether there is each.
func each(has func(minute int) bool) plain {
	var p plain
	for minute := range p {
		p[minute] = has(minute)
	}
	return p
}

// plainRun runs right code by the document's words, minute by minute, on a stack of its own for each call.
func plainRun(l []api.Code, rule, day int) (plain, int) {
	var stack []plain
	steps := 0
	take := func() plain {
		p := stack[len(stack)-1]
		stack = stack[:len(stack)-1]
		return p
	}
	for at := 0; at < len(l[rule].Ins); at++ {
		ins := l[rule].Ins[at]
		steps++
		var p plain
		switch ins.Op {
		case api.ISpans:
			p = each(func(m int) bool {
				return slices.ContainsFunc(ins.Spans, func(s api.Span) bool { return s.A <= m && m < s.B })
			})
		case api.IUnion, api.IDiff, api.IBoth:
			upper := take()
			lower := take()
			p = each(func(m int) bool {
				return map[int]bool{api.IUnion: lower[m] || upper[m], api.IDiff: lower[m] && !upper[m], api.IBoth: lower[m] && upper[m]}[ins.Op]
			})
		case api.IShift:
			was := take()
			p = each(func(m int) bool { return m-ins.A >= 0 && m-ins.A < api.Minutes && was[m-ins.A] })
		case api.ICall:
			called, more := plainRun(l, ins.A, day)
			p, steps = called, steps+more
		case api.IWeek, api.IDates:
			if isOn(ins, day) {
				continue
			}
			at = ins.To - 1
		}
		stack = append(stack, p)
	}
	return stack[0], steps
}

// isOn tells whether a guard goes on to the next place on a day.
func isOn(guard api.Ins, day int) bool {
	if guard.Op == api.IWeek {
		return guard.A&(1<<civil.Week(day)) != 0
	}
	return day >= guard.A && day <= guard.B
}

// effects is how many masks each kind takes, and puts for the next place.
var effects = map[int][2]int{
	api.ISpans: {0, 1}, api.IUnion: {2, 1}, api.IDiff: {2, 1}, api.IBoth: {2, 1}, api.IShift: {1, 1}, api.IWeek: {0, 0}, api.IDates: {0, 0}, api.ICall: {0, 1},
}

// plainHeights is all heights with which each place is come to, and whether no instruction takes too much.
func plainHeights(l []api.Ins) ([]map[int]bool, bool) {
	heights := make([]map[int]bool, len(l)+1)
	for i := range heights {
		heights[i] = map[int]bool{}
	}
	heights[0][0] = true
	enough := true
	for at, ins := range l {
		for h := range heights[at] {
			effect := effects[ins.Op]
			if h < effect[0] {
				enough = false
				continue
			}
			heights[at+1][h-effect[0]+effect[1]] = true
			if ins.Op == api.IWeek || ins.Op == api.IDates {
				heights[ins.To][h+1] = true
			}
		}
	}
	return heights, enough
}

// plainTold is what is to be told of a rule's code, if it uses its stack well.
func plainTold(l []api.Code, rule int) (high, steps int, well bool) {
	ins := l[rule].Ins
	heights, well := plainHeights(ins)
	for _, l := range heights {
		well = well && len(l) == 1
		for h := range l {
			high = max(high, h)
		}
	}
	steps = len(ins)
	for at, i := range ins {
		if i.Op == api.ICall {
			for h := range heights[at] {
				high = max(high, h+l[i.A].High)
			}
			steps += l[i.A].Steps
		}
	}
	return high, steps, well && heights[len(ins)][1]
}

// plainCalls tells whether a rule's code calls another one in at most so many calls within each other.
func plainCalls(l []api.Code, rule, other, deep int) bool {
	return deep > 0 && slices.ContainsFunc(l[rule].Ins, func(i api.Ins) bool {
		return i.Op == api.ICall && (i.A == other || plainCalls(l, i.A, other, deep-1))
	})
}

// plainTogether is what is wrong with code of which every instruction is right.
func plainTogether(l []api.Code) api.Fault {
	for i, c := range l {
		if plainCalls(l, i, i, len(l)) {
			return api.Fault{Err: api.ErrCycle, At: i}
		}
		if high, steps, well := plainTold(l, i); !well || high != c.High || steps != c.Steps {
			return api.Fault{Err: api.ErrFit, At: i}
		}
	}
	return api.Fault{}
}

// anyIns makes an instruction that is right wherever it stands, of a kind; it may call rules below a number. In fields that its kind has not stands something.
func anyIns(r *rand.Rand, op, rules int) api.Ins {
	ins := api.Ins{Op: op, A: r.Intn(9) - 4, B: r.Intn(9) - 4, To: r.Intn(9) - 4, Spans: []api.Span{{A: 9, B: r.Intn(20)}}}
	switch op {
	case api.ISpans:
		ins.Spans = nil
		for at := r.Intn(700); at < api.Minutes; at += 1 + r.Intn(700) {
			s := api.Span{A: at, B: at + 1 + r.Intn(api.Minutes-at)}
			ins.Spans = append(ins.Spans, s)
			at = s.B
		}
	case api.IShift:
		for ins.A = 0; ins.A == 0; {
			ins.A = r.Intn(401) - 200
		}
	case api.IWeek:
		ins.A = 1 + r.Intn(127)
	case api.IDates:
		a, b := someDay-3+r.Intn(7), someDay-3+r.Intn(7)
		ins.A, ins.B = min(a, b), max(a, b)
	case api.ICall:
		ins.A = r.Intn(rules)
	}
	return ins
}

// anyCode makes instructions that use their stack well: guards go on anywhere behind them where the height is right, across each other too. They may call rules below a number.
func anyCode(r *rand.Rand, length, rules int) []api.Ins {
	var l []api.Ins
	heights := []int{0}
	for len(l) < length || heights[len(l)] != 1 {
		op := 1 + r.Intn(8)
		if len(l) >= length && heights[len(l)] > 1 {
			op = api.IUnion + r.Intn(3)
		}
		height := heights[len(l)]
		if op == api.ICall && rules == 0 || height < effects[op][0] || height > 6 && effects[op][1] > effects[op][0] {
			continue
		}
		l = append(l, anyIns(r, op, rules))
		heights = append(heights, height-effects[op][0]+effects[op][1])
	}
	for at := range l {
		if l[at].Op != api.IWeek && l[at].Op != api.IDates {
			continue
		}
		var places []int
		for to := at + 2; to < len(heights); to++ {
			if heights[to] == heights[at]+1 {
				places = append(places, to)
			}
		}
		if len(places) == 0 {
			// A guard that can go on nowhere: the next code may do.
			return anyCode(r, length, rules)
		}
		l[at].To = places[r.Intn(len(places))]
	}
	return l
}

// anyCodes makes right code of so many rules: each calls only those ahead of it, and then they are shuffled.
func anyCodes(r *rand.Rand, n int) []api.Code {
	l := make([]api.Code, n)
	for i := range l {
		l[i].Ins = anyCode(r, 1+r.Intn(12), i)
		l[i].High, l[i].Steps, _ = plainTold(l, i)
	}
	places := r.Perm(n)
	out := make([]api.Code, n)
	for i, c := range l {
		for j := range c.Ins {
			if c.Ins[j].Op == api.ICall {
				c.Ins[j].A = places[c.Ins[j].A]
			}
		}
		out[places[i]] = c
	}
	return out
}

// copied copies code, its lists too.
func copied(l []api.Code) []api.Code {
	out := slices.Clone(l)
	for i := range out {
		out[i].Ins = slices.Clone(out[i].Ins)
		for j := range out[i].Ins {
			out[i].Ins[j].Spans = slices.Clone(out[i].Ins[j].Spans)
		}
	}
	return out
}

// roomy copies code, with something in the spare room behind every list.
func roomy(l []api.Code) []api.Code {
	out := append(copied(l), code(-5, -5))
	for i := range out {
		out[i].Ins = append(out[i].Ins, api.Ins{Op: 77})
		for j := range out[i].Ins {
			spans := append(out[i].Ins[j].Spans, api.Span{A: 8, B: 7})
			out[i].Ins[j].Spans = spans[:len(spans)-1]
		}
		out[i].Ins = out[i].Ins[:len(out[i].Ins)-1]
	}
	return out[:len(l)]
}

// spread is code with its spare room as entries.
func spread(l []api.Code) []api.Code {
	out := copied(l[:cap(l)])
	for i, c := range l[:cap(l)] {
		out[i].Ins = slices.Clone(c.Ins[:cap(c.Ins)])
		for j, ins := range out[i].Ins {
			out[i].Ins[j].Spans = slices.Clone(ins.Spans[:cap(ins.Spans)])
		}
	}
	return out
}
