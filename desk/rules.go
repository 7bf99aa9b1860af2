package desk

import (
	"slices"

	"slotrules/api"
	"slotrules/check"
	"slotrules/code"
	"slotrules/masks"
	"slotrules/parse"
)

// learn takes all rules anew, and lists the appointments that they do not allow.
func (d *desk) learn(text string) api.Answer {
	rules, codes, err := compiled(text)
	if err != api.OK {
		return refused(err)
	}
	d.given++
	d.versions = d.versionsOf(rules)
	d.Rules, d.codes = rules, codes
	return api.Answer{List: d.astray()}
}

// compiled makes rules of a text, and code of them.
func compiled(text string) ([]api.Rule, []api.Code, api.Errno) {
	rules, fault := parse.Parse(text)
	if fault.Err != api.OK {
		return nil, nil, fault.Err
	}
	if fault = check.Wrong(rules); fault.Err != api.OK {
		return nil, nil, fault.Err
	}
	codes, fault := code.Compile(rules)
	if fault.Err != api.OK {
		return nil, nil, fault.Err
	}
	return rules, codes, api.OK
}

// versionsOf tells the version of each new rule: the one that it has, if it and all that it refers to stay as they are.
// A new one is as no other was ever, so that nothing that is kept of a rule that has gone is taken for it.
func (d *desk) versionsOf(rules []api.Rule) []int {
	isNew := func(rule int) bool { return rule >= len(d.Rules) || !sameRule(d.Rules[rule], rules[rule]) }
	var versions []int
	for i := range rules {
		version := d.given
		if !isNew(i) && !slices.ContainsFunc(check.Uses(rules, i), isNew) {
			version = d.versions[i]
		}
		versions = append(versions, version)
	}
	return versions
}

func sameRule(a, b api.Rule) bool { return a.Name == b.Name && sameExpr(a.Expr, b.Expr) }

func sameExpr(a, b api.Expr) bool {
	return a.Kind == b.Kind && a.A == b.A && a.B == b.B && a.Name == b.Name && slices.EqualFunc(a.Kids, b.Kids, sameExpr)
}

// astray lists the live appointments of which someone is not free as the rules say.
func (d *desk) astray() []int {
	var l []int
	for i, a := range d.Appointments {
		barred := func(resource int) bool { return !masks.Holds(d.meant(resource, a.Slot.Day), taken(a)) }
		if a.State != api.Gone && slices.ContainsFunc(a.Slot.Who, barred) {
			l = append(l, i)
		}
	}
	return l
}

// ruleCalled is the number of the rule with that name; below 0, if there is none.
func (d *desk) ruleCalled(name string) int {
	return slices.IndexFunc(d.Rules, func(r api.Rule) bool { return r.Name == name })
}
