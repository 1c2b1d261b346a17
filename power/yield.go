package power

import "bivouac/api"

// yieldOf returns what the panels and the turbine yield in an hour with a sky.
func (g grid) yieldOf(hour int, s api.Sky) int {
	yield := g.Sun[hour] * (100 - s.Rain) / 100
	if isWithin(s.Wind, g.Start, g.Stop) {
		yield += g.Gain * s.Wind
	}
	return yield
}

// yields returns the least and the greatest yield of an hour in all scenarios.
func (g grid) yields(hour int) api.Span {
	all := api.Span{Low: g.yieldOf(hour, g.worsts[0][hour])}
	for i, s := range g.scenarios {
		all.Low = min(all.Low, g.yieldOf(hour, g.worsts[i][hour]))
		all.High = max(all.High, g.yieldOf(hour, g.bestSky(s.Hours[hour])))
	}
	return all
}

// worstOf returns the weather of a scenario that has the least yield in each hour.
func (g grid) worstOf(s api.Scenario) []api.Sky {
	skies := make([]api.Sky, len(s.Hours))
	for hour, h := range s.Hours {
		skies[hour] = g.worstSky(h)
	}
	return skies
}

// worstSky returns a sky with the least yield that an hour can have.
func (g grid) worstSky(h api.Hour) api.Sky {
	return api.Sky{Wind: g.worstWind(h.Wind), Rain: h.Rain.High, Temp: h.Temp.Low}
}

// worstWind returns a wind that yields the least. If none is too strong for the turbine,
// that is the weakest one, in which it yields the least or does not turn.
func (g grid) worstWind(wind api.Span) int {
	if wind.High > g.Stop {
		return wind.High
	}
	return wind.Low
}

// bestSky returns a sky with the greatest yield that an hour can have.
func (g grid) bestSky(h api.Hour) api.Sky {
	return api.Sky{Wind: g.bestWind(h.Wind), Rain: h.Rain.Low, Temp: h.Temp.Low}
}

// bestWind returns a wind that yields the most: the strongest one that is not too strong
// for the turbine, if there is any.
func (g grid) bestWind(wind api.Span) int { return max(wind.Low, min(wind.High, g.Stop)) }
