package ropes

import "bivouac/api"

// unused is the day of the first use of a rope that has not been used.
const unused = -1

// cord is a rope of a model, both of which have been checked.
type cord struct {
	api.Model
	api.Rope
}

// damage returns the damage of the rope on a day.
func (c cord) damage(day int) api.Span {
	var sum api.Span
	for _, f := range c.Falls {
		if f.Day <= day {
			sum.Low += c.damageOf(factor(f.Height.Low, f.Out.High))
			sum.High += c.damageOf(factor(f.Height.High, f.Out.Low))
		}
	}
	return sum
}

// damageOf returns the damage of a factor.
func (c cord) damageOf(factor int) int {
	damage := 0
	for _, w := range c.Wears { // their factors ascend
		if w.Factor <= factor {
			damage = w.Damage
		}
	}
	return damage
}

// factor returns the factor of a fall with a height and a length of rope that was out.
func factor(height, out int) int { return min((100*height+out-1)/out, api.MaxFactor) }

// expiry returns the last day on which the rope is not too old. A day before First, on
// which its use does not count, is not after First + Use, either.
func (c cord) expiry() int {
	if c.First == unused {
		return c.Made + c.Shelf
	}
	return min(c.Made+c.Shelf, c.First+c.Use)
}

// isFit reports whether the rope is fit on a day if its damage is so much.
func (c cord) isFit(day, damage int) bool { return day <= c.expiry() && damage <= c.Bears }

func (c cord) isSurelyFit(day int) bool { return c.isFit(day, c.damage(day).High) }

// latest returns the last of the days Made, First and those of the falls.
func (c cord) latest() int {
	day := max(c.Made, c.First)
	for _, f := range c.Falls {
		day = max(day, f.Day)
	}
	return day
}
