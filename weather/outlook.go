package weather

import (
	"slices"

	"bivouac/api"
)

// outlook is what a forecast and observations, which have been checked, leave
// possible. In a scenario of it the values of the hours do not depend on each
// other: each choice of them is a possible weather.
type outlook struct {
	hours     int
	numbers   []int          // of the possible scenarios
	scenarios []api.Scenario // just these, with nothing but the sky that was seen in an hour with an observation
}

func newOutlook(f api.Forecast, seen []api.Sight) outlook {
	o := outlook{hours: hours(f)}
	for number, s := range f.Scenarios {
		allowed := func(x api.Sight) bool { return isAllowed(x.Sky, s.Hours[x.Hour]) }
		if all(seen, allowed) {
			o.numbers = append(o.numbers, number)
			o.scenarios = append(o.scenarios, observed(s, seen))
		}
	}
	return o
}

// isAllowed reports whether an hour can have a sky.
func isAllowed(s api.Sky, h api.Hour) bool {
	x := just(s)
	return isPart(x.Wind, h.Wind) && isPart(x.Rain, h.Rain) && isPart(x.Temp, h.Temp)
}

// just returns an hour that can have no other sky than one.
func just(s api.Sky) api.Hour {
	return api.Hour{
		Wind: api.Span{Low: s.Wind, High: s.Wind},
		Rain: api.Span{Low: s.Rain, High: s.Rain},
		Temp: api.Span{Low: s.Temp, High: s.Temp},
	}
}

// observed returns what observations leave of a scenario that allows them.
func observed(s api.Scenario, seen []api.Sight) api.Scenario {
	s.Hours = slices.Clone(s.Hours)
	for _, x := range seen {
		s.Hours[x.Hour] = just(x.Sky)
	}
	return s
}

// whole returns the least and the greatest values that an hour can have.
func (o outlook) whole(hour int) api.Hour {
	h := o.scenarios[0].Hours[hour]
	for _, s := range o.scenarios {
		other := s.Hours[hour]
		h = api.Hour{Wind: cover(h.Wind, other.Wind), Rain: cover(h.Rain, other.Rain), Temp: cover(h.Temp, other.Temp)}
	}
	return h
}

// cover returns the shortest span that contains two other ones.
func cover(a, b api.Span) api.Span {
	return api.Span{Low: min(a.Low, b.Low), High: max(a.High, b.High)}
}

// spans returns the numbers below a count of which something is so, as spans
// that are as long as possible, in ascending order.
func spans(count int, is func(i int) bool) []api.Span {
	var list []api.Span
	for i := range count {
		if !is(i) {
			continue
		}
		if last := len(list) - 1; last >= 0 && list[last].High == i-1 {
			list[last].High = i
		} else {
			list = append(list, api.Span{Low: i, High: i})
		}
	}
	return list
}

// isIn reports whether a number is in one of some spans.
func isIn(x int, list []api.Span) bool {
	return slices.ContainsFunc(list, func(s api.Span) bool { return isWithin(x, s.Low, s.High) })
}
