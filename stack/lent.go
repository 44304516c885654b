package stack

import (
	"tableau/api"
	"tableau/ext"
	"tableau/rat"
)

// Lent is what steps have in common by which a column or a row goes, and leaves its bounds to another one, which stays: where that one leans on a bound that was lent, the one that went has to bear it when it comes back.
type Lent struct {
	lo, hi bool    // this bound of the one that stays was lent: its own is looser
	rate   api.Rat // the one that stays is so many times the one that went, but for a constant
}

// Lend lets the bounds at lo and hi become the stricter ones of them and of what bounds of another thing, from and to, make of them: that times the rate, which is not 0, is what they bound. All are in form.
func Lend(lo, hi *api.Ext, rate api.Rat, from, to api.Ext) Lent {
	least, _ := ext.Scale(from, rate)
	most, _ := ext.Scale(to, rate)
	if rate.Neg {
		least, most = most, least
	}
	l := Lent{lo: above(least, *lo), hi: above(*hi, most), rate: rat.Copy(rate)}
	if l.lo {
		*lo = least
	}
	if l.hi {
		*hi = most
	}
	return l
}

// Bears: has the one that went to bear this, which the one that stays has as its reduced cost, or as its multiplier? Its sign tells on which bound it leans.
func (l Lent) Bears(z api.Rat) bool { return l.lent(leans(z, api.Basic)) }

// Share: what the one that went has, where it bears this.
func (l Lent) Share(z api.Rat) api.Rat { return times(z, l.rate) }

// Rest puts both to rest, if the one that stays is not Basic, and tells whether the one that went has to bear z. The one that stays can't rest at a bound that was lent, even where z is 0: the other one rests there, and it is Basic.
func (l Lent) Rest(z api.Rat, stays, went *api.Status) bool {
	side := leans(z, *stays)
	if !l.lent(side) {
		*stays = side
		return false
	}
	*stays, *went = api.Basic, side
	if l.rate.Neg {
		*went = opposite(side)
	}
	return true
}

// Multipliers takes those of bounds that were lent from the one that stays, whose are at lo and hi, and answers what the bounds of the one that went have in their place.
func (l Lent) Multipliers(lo, hi *api.Rat) (least, most api.Rat) {
	size := l.rate
	size.Neg = false
	least, most = rat.Of(0), rat.Of(0)
	if l.lo {
		least, *lo = times(*lo, size), rat.Of(0)
	}
	if l.hi {
		most, *hi = times(*hi, size), rat.Of(0)
	}
	if l.rate.Neg {
		return most, least
	}
	return least, most
}

// lent: was the bound of this side?
func (l Lent) lent(side api.Status) bool {
	return side == api.Lower && l.lo || side == api.Upper && l.hi
}

// leans: which bound this reduced cost needs, or this multiplier; status, if it is 0. Where both bounds are one number, a thing may rest at the one and need the other.
func leans(z api.Rat, status api.Status) api.Status {
	switch {
	case len(z.Num) == 0:
		return status
	case z.Neg:
		return api.Upper
	}
	return api.Lower
}

// opposite: the other bound's status.
func opposite(side api.Status) api.Status {
	if side == api.Lower {
		return api.Upper
	}
	return api.Lower
}

// above wants both in form.
func above(a, b api.Ext) bool {
	c, _ := ext.Cmp(a, b)
	return c > 0
}
