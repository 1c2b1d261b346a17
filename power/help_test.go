package power_test

import (
	"math/rand"
	"slices"
	"testing"

	"bivouac/api"
	"bivouac/power"
)

func span(low, high int) api.Span { return api.Span{Low: low, High: high} }

func exact(x int) api.Span { return span(x, x) }

func windy(low, high int) api.Hour { return api.Hour{Wind: span(low, high), Temp: span(0, 10)} }

func forecast(scenarios ...[]api.Hour) api.Forecast {
	var f api.Forecast
	for _, hours := range scenarios {
		f.Scenarios = append(f.Scenarios, api.Scenario{Hours: hours})
	}
	return f
}

// exampleF is the forecast F of the chapter of weather.
func exampleF() api.Forecast {
	calm, storm, gusts := windy(10, 20), windy(30, 60), windy(15, 45)
	return forecast(
		[]api.Hour{calm, calm, calm, calm, storm, storm},
		[]api.Hour{gusts, gusts, calm, calm, calm, calm},
	)
}

// exampleP is the plant P of the chapter.
func exampleP() api.Plant {
	return api.Plant{
		Forecast: exampleF(),
		Sun:      []int{0, 40, 80, 80, 40, 0}, Gain: 1, Start: 12, Stop: 50,
		Battery: battery(100, 150, 20),
		Gas:     50, Rate: 2, Units: 9,
		Needs: []int{60, 60, 60, 60, 90, 90},
	}
}

// exampleWeather is the weather of the example of Levels.
func exampleWeather() []api.Sky {
	return []api.Sky{breeze(20), breeze(20), breeze(20), breeze(20), breeze(30), breeze(30)}
}

func battery(charge, capacity, reserve int) api.Battery {
	return api.Battery{Charge: charge, Capacity: capacity, Reserve: reserve}
}

// breeze is a sky without rain, at 5 degrees.
func breeze(wind int) api.Sky { return api.Sky{Wind: wind, Temp: 5} }

func sight(hour, wind int) api.Sight { return api.Sight{Hour: hour, Sky: breeze(wind)} }

// changed returns a plant with a change that replaces what it changes.
func changed(p api.Plant, change func(p *api.Plant)) api.Plant {
	change(&p)
	return p
}

func seeing(p api.Plant, seen ...api.Sight) api.Plant {
	p.Seen = append(slices.Clone(p.Seen), seen...)
	return p
}

func withUnits(p api.Plant, units int) api.Plant {
	p.Units = units
	return p
}

func withCharge(p api.Plant, charge int) api.Plant {
	p.Battery.Charge = charge
	return p
}

func needing(p api.Plant, more int) api.Plant {
	p.Needs = slices.Clone(p.Needs)
	for hour := range p.Needs {
		p.Needs[hour] += more
	}
	return p
}

// alone returns a plant with just one of its scenarios.
func alone(p api.Plant, s api.Scenario) api.Plant {
	p.Forecast = api.Forecast{Scenarios: []api.Scenario{s}}
	return p
}

// still is a plant without weather, sun, gas and battery, which needs nothing.
func still(hours int) api.Plant {
	return api.Plant{Forecast: forecast(make([]api.Hour, hours)), Sun: make([]int, hours), Needs: make([]int, hours)}
}

// sunny is a plant that has no wind, and no gas; it has so much charge at first, which
// is at most so much.
func sunny(charge, capacity int, sun, needs []int) api.Plant {
	p := still(len(sun))
	p.Sun, p.Needs, p.Battery = sun, needs, battery(charge, capacity, 0)
	return p
}

// burning is a plant with gas only, and a battery that is empty at first.
func burning(capacity, gas, rate, units int, needs ...int) api.Plant {
	p := still(len(needs))
	p.Needs, p.Battery.Capacity = needs, capacity
	p.Gas, p.Rate, p.Units = gas, rate, units
	return p
}

// turning is a plant with a turbine only, in an hour with some winds.
func turning(gain, start, stop int, winds ...api.Span) api.Plant {
	p := still(1)
	p.Forecast = api.Forecast{}
	for _, w := range winds {
		p.Forecast.Scenarios = append(p.Forecast.Scenarios, api.Scenario{Hours: []api.Hour{{Wind: w}}})
	}
	p.Gain, p.Start, p.Stop = gain, start, stop
	return p
}

// shining is a plant with panels only, in an hour with some rain.
func shining(sun int, rains ...api.Span) api.Plant {
	p := still(1)
	p.Forecast = api.Forecast{}
	for _, r := range rains {
		p.Forecast.Scenarios = append(p.Forecast.Scenarios, api.Scenario{Hours: []api.Hour{{Rain: r}}})
	}
	p.Sun = []int{sun}
	return p
}

// What follows are the definitions of the chapter, by hand.

func hoursOf(p api.Plant) int { return len(p.Needs) }

func isIn(x int, s api.Span) bool { return s.Low <= x && x <= s.High }

func canBe(h api.Hour, s api.Sky) bool {
	return isIn(s.Wind, h.Wind) && isIn(s.Rain, h.Rain) && isIn(s.Temp, h.Temp)
}

// possible returns what the observations leave of the possible scenarios.
func possible(p api.Plant) []api.Scenario {
	var list []api.Scenario
	for _, scenario := range p.Forecast.Scenarios {
		hours, ok := slices.Clone(scenario.Hours), true
		for _, x := range p.Seen {
			ok = ok && canBe(hours[x.Hour], x.Sky)
			hours[x.Hour] = api.Hour{Wind: exact(x.Sky.Wind), Rain: exact(x.Sky.Rain), Temp: exact(x.Sky.Temp)}
		}
		if ok {
			list = append(list, api.Scenario{Hours: hours})
		}
	}
	return list
}

// isWeather reports whether some skies are a possible weather.
func isWeather(p api.Plant, weather []api.Sky) bool {
	return slices.ContainsFunc(possible(p), func(s api.Scenario) bool { return slices.EqualFunc(s.Hours, weather, canBe) })
}

func yieldBy(p api.Plant, hour int, s api.Sky) int {
	panels := p.Sun[hour] * (100 - s.Rain) / 100
	if s.Wind < p.Start || s.Wind > p.Stop {
		return panels
	}
	return panels + p.Gain*s.Wind
}

// yieldsIn are all yields of an hour of a scenario, in ascending order, with all skies
// that it can have.
func yieldsIn(p api.Plant, hour int, h api.Hour) []int {
	all := map[int]bool{}
	for wind := h.Wind.Low; wind <= h.Wind.High; wind++ {
		for rain := h.Rain.Low; rain <= h.Rain.High; rain++ {
			all[yieldBy(p, hour, api.Sky{Wind: wind, Rain: rain})] = true
		}
	}
	var list []int
	for yield := range all {
		list = append(list, yield)
	}
	slices.Sort(list)
	return list
}

// course is the level after each hour, and what is lost altogether, with some yields.
func course(p api.Plant, burn, yields []int) (levels []int, lost int) {
	level := p.Battery.Charge
	for hour, yield := range yields {
		level += yield
		level += p.Gas * burn[hour]
		level -= p.Needs[hour]
		if level > p.Battery.Capacity {
			lost += level - p.Battery.Capacity
			level = p.Battery.Capacity
		}
		levels = append(levels, level)
	}
	return levels, lost
}

func yieldsOf(p api.Plant, weather []api.Sky) []int {
	var yields []int
	for hour, sky := range weather {
		yields = append(yields, yieldBy(p, hour, sky))
	}
	return yields
}

// lastsIn returns through how many hours it lasts with some levels.
func lastsIn(p api.Plant, levels []int) int {
	for hour, level := range levels {
		if level < p.Battery.Reserve {
			return hour
		}
	}
	return len(levels)
}

// yieldTable are all yields of each hour of each possible scenario.
func yieldTable(p api.Plant) [][][]int {
	var table [][][]int
	for _, s := range possible(p) {
		var rows [][]int
		for hour, h := range s.Hours {
			rows = append(rows, yieldsIn(p, hour, h))
		}
		table = append(table, rows)
	}
	return table
}

// lastsBy returns through how many hours it lasts in each possible weather. It goes
// through all weathers of each scenario.
func lastsBy(p api.Plant, table [][][]int, burn []int) int {
	least := hoursOf(p)
	yields := make([]int, hoursOf(p))
	for _, rows := range table {
		var visit func(hour int)
		visit = func(hour int) {
			if hour == hoursOf(p) {
				levels, _ := course(p, burn, yields)
				least = min(least, lastsIn(p, levels))
				return
			}
			for _, yield := range rows[hour] {
				yields[hour] = yield
				visit(hour + 1)
			}
		}
		visit(0)
	}
	return least
}

// lastsByLevels is lastsBy, by all levels that can be after each hour.
func lastsByLevels(p api.Plant, table [][][]int, burn []int) int {
	least := hoursOf(p)
	for _, rows := range table {
		levels := map[int]bool{p.Battery.Charge: true}
		for hour, row := range rows[:least] {
			next := map[int]bool{}
			for level := range levels {
				for _, yield := range row {
					after := min(level+yield+p.Gas*burn[hour]-p.Needs[hour], p.Battery.Capacity)
					next[after] = true
					if after < p.Battery.Reserve {
						least = min(least, hour)
					}
				}
			}
			if least == hour {
				break
			}
			levels = next
		}
	}
	return least
}

// burnsOf returns all burns of a plant; one that burns less in the first hour in which
// they differ comes first.
func burnsOf(p api.Plant) [][]int {
	var all [][]int
	burn := make([]int, hoursOf(p))
	var fill func(hour, left int)
	fill = func(hour, left int) {
		if hour == len(burn) {
			all = append(all, slices.Clone(burn))
			return
		}
		for units := range min(p.Rate, left) + 1 {
			burn[hour] = units
			fill(hour+1, left-units)
		}
	}
	fill(0, p.Units)
	return all
}

func total(burn []int) int {
	sum := 0
	for _, units := range burn {
		sum += units
	}
	return sum
}

// plansBy returns all plans, in the order of burnsOf.
func plansBy(p api.Plant, table [][][]int) [][]int {
	return slices.DeleteFunc(burnsOf(p), func(burn []int) bool { return lastsByLevels(p, table, burn) < hoursOf(p) })
}

// hasPlanBy reports whether there is any.
func hasPlanBy(p api.Plant, table [][][]int) bool {
	return slices.ContainsFunc(burnsOf(p), func(burn []int) bool { return lastsByLevels(p, table, burn) == hoursOf(p) })
}

// fewest returns the first of the plans with the fewest units.
func fewest(plans [][]int) []int {
	best := plans[0]
	for _, burn := range plans {
		if total(burn) < total(best) {
			best = burn
		}
	}
	return best
}

// What follows are random arguments, all of which are valid.

// pick returns a number of a span, often one of its ends.
func pick(r *rand.Rand, s api.Span) int {
	return []int{s.Low, s.High, s.Low + r.Intn(s.High-s.Low+1)}[r.Intn(3)]
}

// pickWeather returns a possible weather.
func pickWeather(r *rand.Rand, p api.Plant) []api.Sky {
	var skies []api.Sky
	scenarios := possible(p)
	for _, h := range scenarios[r.Intn(len(scenarios))].Hours {
		skies = append(skies, api.Sky{Wind: pick(r, h.Wind), Rain: pick(r, h.Rain), Temp: pick(r, h.Temp)})
	}
	return skies
}

// pickBurn returns a burn of a plant.
func pickBurn(r *rand.Rand, p api.Plant) []int {
	burn, left := make([]int, hoursOf(p)), p.Units
	for _, hour := range r.Perm(len(burn)) {
		if r.Intn(2) == 0 {
			burn[hour] = r.Intn(min(p.Rate, left) + 1)
			left -= burn[hour]
		}
	}
	return burn
}

// size tells how great random plants are.
type size struct {
	scenarios, hours int
	// wide is how many winds an hour can have at most, and how much rain.
	wide, unit, rate, units int
	wind, rain              int
}

// small is the size of plants all of whose weathers and burns can be gone through.
func small() size {
	return size{scenarios: 3, hours: 4, wide: 3, unit: 6, rate: 2, units: 8, wind: 8, rain: 100}
}

func medium() size {
	return size{scenarios: 4, hours: 8, wide: 6, unit: 30, rate: 3, units: 20, wind: 30, rain: 100}
}

func large() size {
	return size{scenarios: api.MaxScenarios, hours: api.MaxHours, wide: 80, unit: 1500, rate: api.MaxRate, units: api.MaxUnits, wind: api.MaxWind, rain: 100}
}

// hour returns an hour whose values often are just a few.
func (z size) hour(r *rand.Rand) api.Hour {
	around := func(low, high, wide int) api.Span {
		a := low + r.Intn(high-low+1)
		return span(a, min(high, a+r.Intn(wide)))
	}
	return api.Hour{Wind: around(0, z.wind, z.wide), Rain: around(0, z.rain, z.wide), Temp: around(-5, 5, 3)}
}

// forecast returns a forecast whose scenarios often are alike in an hour.
func (z size) forecast(r *rand.Rand) api.Forecast {
	var first []api.Hour
	for range 1 + r.Intn(z.hours) {
		first = append(first, z.hour(r))
	}
	f := forecast(first)
	for range r.Intn(z.scenarios) {
		other := slices.Clone(first)
		for hour := range other {
			if r.Intn(3) == 0 {
				other[hour] = z.hour(r)
			}
		}
		f.Scenarios = append(f.Scenarios, api.Scenario{Hours: other})
	}
	return f
}

// sights returns observations of a weather of some scenario.
func (z size) sights(r *rand.Rand, f api.Forecast) []api.Sight {
	skies := pickWeather(r, api.Plant{Forecast: f})
	var seen []api.Sight
	for _, hour := range r.Perm(len(skies)) {
		if len(seen) < api.MaxSights && r.Intn(5) == 0 {
			seen = append(seen, api.Sight{Hour: hour, Sky: skies[hour]})
		}
	}
	return seen
}

// plant returns a plant that yields about as much as it needs, with some gas.
func (z size) plant(r *rand.Rand) api.Plant {
	p := api.Plant{Forecast: z.forecast(r), Gain: r.Intn(3)}
	p.Start, p.Stop = r.Intn(z.wind/2), z.wind/2+r.Intn(z.wind/2)
	p.Battery = battery(0, r.Intn(4*z.unit), 0)
	p.Battery.Charge, p.Battery.Reserve = r.Intn(p.Battery.Capacity+1), r.Intn(2)*r.Intn(p.Battery.Capacity/2+1)
	p.Gas, p.Rate, p.Units = r.Intn(z.unit), r.Intn(z.rate+1), r.Intn(z.units+1)
	for range p.Forecast.Scenarios[0].Hours {
		p.Sun = append(p.Sun, r.Intn(2)*r.Intn(2*z.unit))
		p.Needs = append(p.Needs, r.Intn(3)*r.Intn(z.unit))
	}
	p.Seen = z.sights(r, p.Forecast)
	return p
}

// eachPlant calls check for random plants.
func eachPlant(t *testing.T, z size, seed int64, cases int, check func(r *rand.Rand, p api.Plant)) {
	t.Helper()
	r := rand.New(rand.NewSource(seed))
	for i := range cases {
		p := z.plant(r)
		check(r, p)
		if t.Failed() {
			t.Fatalf("case %d: %+v", i, p)
		}
	}
}

// planOf returns the units of Plan, and whether there is a plan.
func planOf(t *testing.T, p api.Plant) (units int, ok bool) {
	t.Helper()
	_, units, e := power.Plan(p)
	if e != api.OK && e != api.ErrNone {
		t.Errorf("Plan of %+v: %d", p, e)
	}
	return units, e == api.OK
}

func isTrue(b bool) int {
	if b {
		return 1
	}
	return 0
}
