package simplex

import (
	"tableau/api"
	"tableau/nat"
	"tableau/rat"
)

// A step moves the place in a slot up, or down, till a number comes to a bound.
type step struct {
	slot int
	down bool
	stop int        // the line whose number comes to a bound first; or one of those below
	rest api.Status // at which bound that number then is
	far  api.Rat    // how far the place moves till then
}

const (
	nobody = -1 // no number comes to a bound
	itself = -2 // the place comes to its own other bound: the basis keeps its lines
)

// search goes from basis to basis: first the sum of what bounds are broken by is made less, then the value.
//
// It ends. A step that moves something makes less what is aimed at; and a number that has come to keep its bounds does so from then on, so that the aim changes no more often than there are places. Steps that move nothing may lead back to an earlier basis; but if there are more of them in a row than patience has, the places are taken by Bland's rule, by which none does.
func (t *table) search(patience int) api.Answer {
	t.aimAtBounds()
	atBounds, still := true, 0
steps:
	for {
		s, some := t.choose(still > patience)
		switch {
		case some && s.stop == nobody:
			return t.unbounded(s)
		case some:
			t.take(s)
		case t.broken():
			return t.infeasible()
		case atBounds:
			atBounds = false
			t.aimAtCosts()
			continue steps
		default:
			break steps
		}
		still++
		if !isNought(s.far) {
			still = 0
		}
		if atBounds && t.mend() {
			t.aimAtBounds()
		}
	}
	return t.optimal()
}

// choose answers the next step; false, if none makes less what is aimed at.
func (t *table) choose(bland bool) (step, bool) {
	best := -1
	for slot := range t.others {
		if t.helps(slot) && (best < 0 || t.ahead(slot, best, bland)) {
			best = slot
		}
	}
	if best < 0 {
		return step{}, false
	}
	return t.reach(best), true
}

// helps: does what is aimed at become less, if the place in this slot leaves its bound, and may it?
func (t *table) helps(slot int) bool {
	place, part := t.others[slot], t.aim.parts[slot]
	switch {
	case isZero(part) || t.fixed(place):
		return false
	case t.status[place] == api.Free:
		return true
	}
	return part.Neg == (t.status[place] == api.Lower)
}

// ahead: is the place in slot a to be taken rather than that in b? By Bland's rule it is, if it is the lesser one. Else the one that went in less often comes first: so none waits long while others go in and out (Zadeh's rule); and of those the one with the greater share.
func (t *table) ahead(a, b int, bland bool) bool {
	p, q := t.others[a], t.others[b]
	if !bland && t.went[p] != t.went[q] {
		return t.went[p] < t.went[q]
	}
	if c, _ := nat.Cmp(t.aim.parts[a].Mag, t.aim.parts[b].Mag); !bland && c != 0 {
		return c > 0
	}
	return p < q
}

// reach answers the step of the place in this slot. Of the numbers that come to a bound first the one with the least place is taken, as Bland's rule has it; but that of the place itself comes ahead of all.
func (t *table) reach(slot int) step {
	s := step{slot: slot, down: !t.aim.parts[slot].Neg, stop: nobody}
	place := t.others[slot]
	if t.lo[place].Inf == 0 && t.hi[place].Inf == 0 {
		s.stop, s.far, s.rest = itself, minus(t.hi[place].V, t.lo[place].V), api.Upper
		if s.down {
			s.rest = api.Lower
		}
	}
	for i, l := range t.lines {
		if isZero(l.parts[slot]) {
			continue
		}
		rest, bound := t.meets(t.basics[i], l.parts[slot].Neg != s.down)
		if bound.Inf != 0 {
			continue
		}
		far := times(minus(bound.V, t.at[t.basics[i]]), quotient(l.by, l.parts[slot]))
		far.Neg = false
		if t.sooner(s, i, far) {
			s.stop, s.far, s.rest = i, far, rest
		}
	}
	return s
}

// sooner: does the number of line i, which comes to a bound after so far a way, stop the step rather than what it is stopped by?
func (t *table) sooner(s step, i int, far api.Rat) bool {
	if s.stop == nobody {
		return true
	}
	if c := compare(far, s.far); c != 0 {
		return c < 0
	}
	return s.stop != itself && t.basics[i] < t.basics[s.stop]
}

// meets answers the bound that the number of a Basic place comes to if it falls, or rises, and the status that it then has. One that breaks a bound stops at that bound, and goes on without end the other way.
func (t *table) meets(place int, falls bool) (api.Status, api.Ext) {
	side := t.off[place]
	switch {
	case falls && side < 0, !falls && side > 0:
		return api.Basic, api.Ext{Inf: side}
	case falls && side > 0, !falls && side == 0:
		return api.Upper, t.hi[place]
	}
	return api.Lower, t.lo[place]
}

// take makes a step.
func (t *table) take(s step) {
	in := t.others[s.slot]
	t.move(s)
	t.went[in]++
	if s.stop == itself {
		t.status[in] = s.rest
		return
	}
	t.status[in], t.status[t.basics[s.stop]] = api.Basic, s.rest
	t.swap(s.stop, s.slot)
}

// move reckons all numbers anew.
func (t *table) move(s step) {
	if isNought(s.far) {
		return
	}
	for place, pace := range t.paces(s) {
		if !isNought(pace) {
			t.at[place] = plus(t.at[place], times(s.far, pace))
		}
	}
}

// paces answers how much each place's number grows while the step's own place goes on by 1.
func (t *table) paces(s step) []api.Rat {
	list := noughts(len(t.at))
	list[t.others[s.slot]] = rat.Of(1)
	for i, l := range t.lines {
		list[t.basics[i]] = l.share(s.slot)
	}
	if s.down {
		for place, r := range list {
			list[place] = negative(r)
		}
	}
	return list
}
