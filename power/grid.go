package power

import (
	"iter"
	"slices"

	"bivouac/api"
	"bivouac/weather"
)

// grid is a plant that has been checked, and what its weather can be.
type grid struct {
	api.Plant
	scenarios []api.Scenario // the possible ones, as the observations leave them
	worsts    [][]api.Sky    // for each of them the weather with the least yields
}

// newGrid makes calls of weather that have no error, as the plant has none.
func newGrid(p api.Plant) grid {
	g := grid{Plant: p}
	numbers, _ := weather.Possible(p.Forecast, p.Seen)
	for _, number := range numbers {
		s := observed(p.Forecast.Scenarios[number], p.Seen)
		g.scenarios = append(g.scenarios, s)
		g.worsts = append(g.worsts, g.worstOf(s))
	}
	return g
}

// observed returns what observations leave of a scenario. It is the only one of a
// forecast then, so that the range of each hour is its own.
func observed(s api.Scenario, seen []api.Sight) api.Scenario {
	alone := api.Forecast{Scenarios: []api.Scenario{s}}
	hours := make([]api.Hour, len(s.Hours))
	for hour := range hours {
		hours[hour], _ = weather.Range(alone, seen, hour)
	}
	return api.Scenario{Hours: hours}
}

func (g grid) hours() int { return len(g.Needs) }

// with returns the grid of a changed plant. A change that leaves the yields as they are
// leaves the worst weathers, too.
func (g grid) with(change func(p *api.Plant)) grid {
	change(&g.Plant)
	return g
}

// needing returns the grid in which each hour needs so much more.
func (g grid) needing(more int) grid {
	return g.with(func(p *api.Plant) {
		p.Needs = slices.Clone(p.Needs)
		for hour := range p.Needs {
			p.Needs[hour] += more
		}
	})
}

// charged returns the grid whose battery has some charge at first.
func (g grid) charged(charge int) grid {
	return g.with(func(p *api.Plant) { p.Battery.Charge = charge })
}

// levels yields, hour by hour, the level after it, and how much is lost in it, in a
// weather and with a burn.
func (g grid) levels(burn []int, weather []api.Sky) iter.Seq2[int, int] {
	return func(yield func(level, lost int) bool) {
		level := g.Battery.Charge
		for hour, sky := range weather {
			level += g.yieldOf(hour, sky) + g.Gas*burn[hour] - g.Needs[hour]
			lost := max(0, level-g.Battery.Capacity)
			level -= lost
			if !yield(level, lost) {
				return
			}
		}
	}
}

// lasts returns through how many hours it lasts in a weather with a burn.
func (g grid) lasts(burn []int, weather []api.Sky) int {
	hours := 0
	for level := range g.levels(burn, weather) {
		if level < g.Battery.Reserve {
			break
		}
		hours++
	}
	return hours
}

// worst returns a weather in which it lasts through the fewest hours with a burn, and
// this number; no weather if it lasts through all hours in each. No level is less than
// with the least yields of all hours, and these can come together.
func (g grid) worst(burn []int) (weather []api.Sky, hours int) {
	hours = g.hours()
	for _, w := range g.worsts {
		if n := g.lasts(burn, w); n < hours {
			weather, hours = w, n
		}
	}
	return weather, hours
}

// plan returns the plan that, up to the end of each hour, has burnt the fewest units of
// all plans, if there is any. As long as it does not last through some hour, each plan
// burns more up to the end of it; and so this unit is burnt as late as the rate allows,
// as what is burnt before can be lost.
func (g grid) plan() ([]int, bool) {
	burn := make([]int, g.hours())
	for range g.Units + 1 {
		_, short := g.worst(burn)
		if short == g.hours() {
			return burn, true
		}
		hour := g.latest(burn[:short+1])
		if hour < 0 {
			break
		}
		burn[hour]++
	}
	return nil, false
}

// latest returns the last of the hours of a burn in which one more unit can be burnt,
// or -1.
func (g grid) latest(burn []int) int {
	for hour, units := range slices.Backward(burn) {
		if units < g.Rate {
			return hour
		}
	}
	return -1
}

func (g grid) hasPlan() bool {
	_, ok := g.plan()
	return ok
}
