package power

import (
	"slices"

	"bivouac/api"
)

// begin checks a plant, and then burns of it.
func begin(p api.Plant, burns ...[]int) (grid, api.Errno) {
	if e := Check(p); e != api.OK {
		return grid{}, e
	}
	g := newGrid(p)
	for _, burn := range burns {
		if !g.isBurn(burn) {
			return grid{}, api.ErrBurn
		}
	}
	return g, api.OK
}

// checkPlant checks all of a plant but its forecast and observations, and relies on
// those without an error.
func checkPlant(p api.Plant) api.Errno {
	hours := len(p.Forecast.Scenarios[0].Hours)
	isYield := areWithin(p.Sun, hours, api.MaxPower) && isWithin(p.Gain, 0, api.MaxGain) &&
		isWithin(p.Stop, 0, api.MaxWind) && isWithin(p.Start, 0, p.Stop)
	isGas := isWithin(p.Gas, 0, api.MaxPower) && isWithin(p.Rate, 0, api.MaxRate) && isWithin(p.Units, 0, api.MaxUnits)
	if !isYield || !isGas || !isBattery(p.Battery) || !areWithin(p.Needs, hours, api.MaxPower) {
		return api.ErrPlant
	}
	return api.OK
}

func isBattery(b api.Battery) bool {
	return isWithin(b.Capacity, 0, api.MaxBattery) && isWithin(b.Charge, 0, b.Capacity) && isWithin(b.Reserve, 0, b.Capacity)
}

func (g grid) isBurn(burn []int) bool {
	return areWithin(burn, g.hours(), g.Rate) && sum(burn) <= g.Units
}

// isPossible reports whether a sky for each hour is a possible weather: one of a single
// scenario.
func (g grid) isPossible(weather []api.Sky) bool {
	return slices.ContainsFunc(g.scenarios, func(s api.Scenario) bool {
		return slices.EqualFunc(s.Hours, weather, isAllowed)
	})
}

// isAllowed reports whether an hour can have a sky.
func isAllowed(h api.Hour, s api.Sky) bool {
	return isIn(s.Wind, h.Wind) && isIn(s.Rain, h.Rain) && isIn(s.Temp, h.Temp)
}

// areWithin reports whether there are so many numbers, each from 0 up to a limit.
func areWithin(numbers []int, count, high int) bool {
	isWrong := func(x int) bool { return !isWithin(x, 0, high) }
	return len(numbers) == count && !slices.ContainsFunc(numbers, isWrong)
}

func isWithin(x, low, high int) bool { return low <= x && x <= high }

func isIn(x int, s api.Span) bool { return isWithin(x, s.Low, s.High) }

func sum(numbers []int) int {
	total := 0
	for _, x := range numbers {
		total += x
	}
	return total
}
