package supply_test

import (
	"math/rand"
	"slices"
	"testing"

	"bivouac/api"
	"bivouac/supply"
	"bivouac/weather"
)

func span(low, high int) api.Span { return api.Span{Low: low, High: high} }

func windy(low, high int) api.Hour {
	return api.Hour{Wind: span(low, high), Temp: span(0, 10)}
}

// warm returns a calm hour with some temperatures.
func warm(low, high int) api.Hour { return api.Hour{Temp: span(low, high)} }

func forecast(scenarios ...[]api.Hour) api.Forecast {
	var f api.Forecast
	for _, hours := range scenarios {
		f.Scenarios = append(f.Scenarios, api.Scenario{Hours: hours})
	}
	return f
}

// exampleF is the forecast F of the chapter of weather.
func exampleF() api.Forecast {
	calm, storm, gusts := windy(10, 20), windy(30, 60), windy(15, 45)
	return forecast(
		[]api.Hour{calm, calm, calm, calm, storm, storm},
		[]api.Hour{gusts, gusts, calm, calm, calm, calm},
	)
}

// exampleL are the limits L of the chapter of weather.
func exampleL() api.Limits { return api.Limits{Wind: 40, Temp: span(-5, 15)} }

func widest() api.Limits {
	return api.Limits{Wind: api.MaxWind, Rain: api.MaxRain, Temp: span(-api.MaxTemp, api.MaxTemp)}
}

func maxWind(wind int) api.Limits {
	l := widest()
	l.Wind = wind
	return l
}

// exampleS is the supply S of the chapter.
func exampleS() api.Supply {
	return api.Supply{
		Forecast: exampleF(),
		Store:    store(30, 10, 60, 5, 8),
		Carriers: []api.Carrier{{Lift: 20, Heat: 1, Cost: 7, Limits: exampleL()}, cable(15, 4)},
	}
}

func store(stock, reserve, room, low, high int) api.Store {
	return api.Store{Stock: stock, Reserve: reserve, Room: room, Use: span(low, high)}
}

// cable returns a carrier that goes in any weather, and always lifts the same.
func cable(lift, cost int) api.Carrier {
	return api.Carrier{Lift: lift, Cost: cost, Limits: widest()}
}

// calm returns a supply of some hours in which each carrier goes.
func calm(hours int, s api.Store, carriers ...api.Carrier) api.Supply {
	return api.Supply{Forecast: forecast(slices.Repeat([]api.Hour{warm(0, 0)}, hours)), Store: s, Carriers: carriers}
}

// sight is an observation of a wind at 5 degrees.
func sight(hour, wind int) api.Sight {
	return api.Sight{Hour: hour, Sky: api.Sky{Wind: wind, Temp: 5}}
}

// seeing returns a supply with more observations.
func seeing(s api.Supply, seen ...api.Sight) api.Supply {
	s.Seen = append(slices.Clone(s.Seen), seen...)
	return s
}

// trips returns those of a carrier in some hours.
func trips(carrier int, hours ...int) []api.Trip {
	var list []api.Trip
	for _, hour := range hours {
		list = append(list, api.Trip{Hour: hour, Carrier: carrier})
	}
	return list
}

func copySupply(s api.Supply) api.Supply {
	s.Forecast.Scenarios = slices.Clone(s.Forecast.Scenarios)
	for i := range s.Forecast.Scenarios {
		s.Forecast.Scenarios[i].Hours = slices.Clone(s.Forecast.Scenarios[i].Hours)
	}
	s.Seen, s.Carriers = slices.Clone(s.Seen), slices.Clone(s.Carriers)
	return s
}

func hoursOf(s api.Supply) int { return len(s.Forecast.Scenarios[0].Hours) }

// canBe reports whether an hour can have a sky.
func canBe(h api.Hour, s api.Sky) bool {
	isIn := func(x int, s api.Span) bool { return s.Low <= x && x <= s.High }
	return isIn(s.Wind, h.Wind) && isIn(s.Rain, h.Rain) && isIn(s.Temp, h.Temp)
}

// possible returns what the observations leave of the possible scenarios.
func possible(s api.Supply) []api.Scenario {
	var list []api.Scenario
	for _, scenario := range copySupply(s).Forecast.Scenarios {
		ok := true
		for _, x := range s.Seen {
			ok = ok && canBe(scenario.Hours[x.Hour], x.Sky)
			scenario.Hours[x.Hour] = api.Hour{Wind: span(x.Sky.Wind, x.Sky.Wind), Rain: span(x.Sky.Rain, x.Sky.Rain), Temp: span(x.Sky.Temp, x.Sky.Temp)}
		}
		if ok {
			list = append(list, scenario)
		}
	}
	return list
}

// keeps reports whether all skies that an hour can have keep limits.
func keeps(h api.Hour, l api.Limits) bool {
	return h.Wind.High <= l.Wind && h.Rain.High <= l.Rain && l.Temp.Low <= h.Temp.Low && h.Temp.High <= l.Temp.High
}

// loadsOf returns the loads by their definition, scenario by scenario: the load
// is the least one of all possible scenarios.
func loadsOf(s api.Supply) [][]int {
	var loads [][]int
	for _, c := range s.Carriers {
		row := make([]int, hoursOf(s))
		for hour := range row {
			row[hour] = c.Lift
			for _, scenario := range possible(s) {
				h := scenario.Hours[hour]
				load := max(0, c.Lift-c.Heat*max(0, h.Temp.High))
				if !keeps(h, c.Limits) {
					load = 0
				}
				row[hour] = min(row[hour], load)
			}
		}
		loads = append(loads, row)
	}
	return loads
}

// course is the stock of a store, hour by hour: with what came in the hour, and
// after what was used.
type course struct{ full, left []int }

// run returns the course of a store with some trips and amounts.
func run(s api.Supply, loads [][]int, trips []api.Trip, uses []int) course {
	var c course
	stock := s.Store.Stock
	for hour, amount := range uses {
		for _, t := range trips {
			if t.Hour == hour {
				stock += loads[t.Carrier][hour]
			}
		}
		c.full = append(c.full, stock)
		stock -= amount
		c.left = append(c.left, stock)
	}
	return c
}

// constant returns the same amount for each hour.
func constant(s api.Supply, amount int) []int { return slices.Repeat([]int{amount}, hoursOf(s)) }

// lastsOf returns how many hours leave at least the reserve.
func lastsOf(s api.Supply, c course) int {
	short := slices.IndexFunc(c.left, func(stock int) bool { return stock < s.Store.Reserve })
	if short < 0 {
		return len(c.left)
	}
	return short
}

func fitsIn(s api.Supply, c course) bool { return slices.Max(c.full) <= s.Store.Room }

// isPlan reports whether trips suffice and fit.
func isPlan(s api.Supply, loads [][]int, trips []api.Trip) bool {
	most, least := run(s, loads, trips, constant(s, s.Store.Use.High)), run(s, loads, trips, constant(s, s.Store.Use.Low))
	return lastsOf(s, most) == hoursOf(s) && fitsIn(s, least)
}

// areTrips reports whether trips are in order, each with a load.
func areTrips(loads [][]int, trips []api.Trip) bool {
	for i, t := range trips {
		if loads[t.Carrier][t.Hour] == 0 {
			return false
		}
		if i > 0 && (trips[i-1].Hour > t.Hour || trips[i-1].Hour == t.Hour && trips[i-1].Carrier >= t.Carrier) {
			return false
		}
	}
	return true
}

func costOf(s api.Supply, trips []api.Trip) int {
	cost := 0
	for _, t := range trips {
		cost += s.Carriers[t.Carrier].Cost
	}
	return cost
}

// allTrips returns all trips that can be made, each alone, in their order.
func allTrips(s api.Supply, loads [][]int) []api.Trip {
	var all []api.Trip
	for hour := range hoursOf(s) {
		for carrier := range loads {
			if loads[carrier][hour] > 0 {
				all = append(all, api.Trip{Hour: hour, Carrier: carrier})
			}
		}
	}
	return all
}

// cheapest returns the least cost of all sets of trips that are plans.
func cheapest(s api.Supply, loads [][]int) (cost int, found bool) {
	all := allTrips(s, loads)
	for set := range 1 << len(all) {
		var some []api.Trip
		for i, t := range all {
			if set>>i&1 == 1 {
				some = append(some, t)
			}
		}
		if isPlan(s, loads, some) && (!found || costOf(s, some) < cost) {
			cost, found = costOf(s, some), true
		}
	}
	return cost, found
}

// flaw tells what is wrong with a proof of a cost by the section Proofs, if
// anything is.
func flaw(s api.Supply, loads [][]int, bounds []api.Bound, cost int) string {
	if len(bounds) == 0 || bounds[0] != (api.Bound{Cost: cost}) {
		return "the first bound"
	}
	type state struct{ hour, brought int }
	costs := map[state]int{}
	for i, b := range bounds {
		switch {
		case b.Hour < 0 || b.Hour > hoursOf(s):
			return "an hour"
		case b.Hour == hoursOf(s) && b.Cost != 0:
			return "a cost at the end"
		case i > 0 && (bounds[i-1].Hour > b.Hour || bounds[i-1].Hour == b.Hour && bounds[i-1].Brought >= b.Brought):
			return "the order"
		}
		costs[state{b.Hour, b.Brought}] = b.Cost
	}
	for _, b := range bounds {
		for set := 0; b.Hour < hoursOf(s) && set < 1<<len(loads); set++ {
			brought, paid, can := b.Brought, 0, true
			for carrier, row := range loads {
				if set>>carrier&1 == 1 {
					brought, paid, can = brought+row[b.Hour], paid+s.Carriers[carrier].Cost, can && row[b.Hour] > 0
				}
			}
			all := s.Store.Stock + brought
			if !can || all-b.Hour*s.Store.Use.Low > s.Store.Room || all-(b.Hour+1)*s.Store.Use.High < s.Store.Reserve {
				continue
			}
			if after, ok := costs[state{b.Hour + 1, brought}]; !ok || after < b.Cost-paid {
				return "what follows a bound"
			}
		}
	}
	return ""
}

// pick returns a number of a span, often one of its ends.
func pick(r *rand.Rand, s api.Span) int {
	return []int{s.Low, s.High, s.Low + r.Intn(s.High-s.Low+1)}[r.Intn(3)]
}

// pickUses returns an amount for each hour that can be used.
func pickUses(r *rand.Rand, s api.Supply) []int {
	var uses []int
	for range hoursOf(s) {
		uses = append(uses, pick(r, s.Store.Use))
	}
	return uses
}

// pickTrips returns some of the trips that can be made.
func pickTrips(r *rand.Rand, s api.Supply, loads [][]int) []api.Trip {
	most := r.Intn(5)
	return slices.DeleteFunc(allTrips(s, loads), func(api.Trip) bool { return r.Intn(5) >= most })
}

// pickWeather returns a sky for each hour, of some possible weather.
func pickWeather(r *rand.Rand, s api.Supply) []api.Sky {
	var sky []api.Sky
	scenarios := possible(s)
	for _, h := range scenarios[r.Intn(len(scenarios))].Hours {
		sky = append(sky, api.Sky{Wind: pick(r, h.Wind), Rain: pick(r, h.Rain), Temp: pick(r, h.Temp)})
	}
	return sky
}

// size tells how great random supplies are.
type size struct {
	scenarios, hours, carriers, trips int
	// unit is what a carrier lifts about, and room how much fits at most.
	unit, room, wind, temp int
}

// small is the size of supplies all of whose sets of trips can be gone through.
func small() size {
	return size{scenarios: 3, hours: 6, carriers: 3, trips: 10, unit: 12, room: 60, wind: 8, temp: 6}
}

func medium() size {
	return size{scenarios: 3, hours: 12, carriers: api.MaxCarriers, trips: api.MaxTrips, unit: 60, room: 400, wind: 50, temp: 20}
}

func large() size {
	return size{scenarios: api.MaxScenarios, hours: api.MaxHours, carriers: api.MaxCarriers, trips: api.MaxTrips, unit: api.MaxLift, room: api.MaxStore, wind: api.MaxWind, temp: api.MaxTemp}
}

// hour returns an hour whose values often are just a few.
func (z size) hour(r *rand.Rand) api.Hour {
	around := func(low, high int) api.Span {
		a := low + r.Intn(high-low+1)
		return span(a, min(high, a+r.Intn((high-low)/3+1)))
	}
	return api.Hour{Wind: around(0, z.wind), Rain: span(0, r.Intn(2)), Temp: around(-z.temp, z.temp)}
}

// forecast returns a forecast whose scenarios often are alike in an hour.
func (z size) forecast(r *rand.Rand) api.Forecast {
	hours := 1 + r.Intn(z.hours)
	var first []api.Hour
	for range hours {
		first = append(first, z.hour(r))
	}
	f := forecast(first)
	for range r.Intn(z.scenarios) {
		other := slices.Clone(first)
		for hour := range other {
			if r.Intn(3) == 0 {
				other[hour] = z.hour(r)
			}
		}
		f.Scenarios = append(f.Scenarios, api.Scenario{Hours: other})
	}
	return f
}

// sights returns observations of a weather of some scenario.
func (z size) sights(r *rand.Rand, f api.Forecast) []api.Sight {
	sky := pickWeather(r, api.Supply{Forecast: f})
	var seen []api.Sight
	for _, hour := range r.Perm(len(sky)) {
		if len(seen) < api.MaxSights && r.Intn(5) == 0 {
			seen = append(seen, api.Sight{Hour: hour, Sky: sky[hour]})
		}
	}
	return seen
}

func (z size) carrier(r *rand.Rand) api.Carrier {
	c := api.Carrier{Lift: r.Intn(z.unit + 1), Cost: r.Intn(3) * r.Intn(z.unit), Limits: widest()}
	if r.Intn(2) == 0 {
		c.Heat = r.Intn(c.Lift/max(1, z.temp) + 1)
	}
	if r.Intn(3) > 0 {
		c.Limits = api.Limits{Wind: pick(r, span(z.wind/2, z.wind)), Rain: 1, Temp: span(-z.temp, pick(r, span(0, z.temp)))}
	}
	return c
}

// store returns a store for which there often is a plan, with trips: its room is
// enough for what may or may not have been used after all hours.
func (z size) store(r *rand.Rand, hours int) api.Store {
	room := pick(r, span(z.room/5, z.room))
	reserve := r.Intn(2) * r.Intn(room/2)
	least := r.Intn(2) * r.Intn(min(z.unit, api.MaxUse))
	wide := r.Intn(min(z.unit/3, (room-reserve)/hours) + 1)
	return store(pick(r, span(reserve, (room+reserve)/2)), reserve, room, least, min(api.MaxUse, least+wide))
}

func (z size) supply(r *rand.Rand) api.Supply {
	s := api.Supply{Forecast: z.forecast(r)}
	s.Store, s.Seen = z.store(r, hoursOf(s)), z.sights(r, s.Forecast)
	for range r.Intn(z.carriers + 1) {
		if (len(s.Carriers)+1)*hoursOf(s) <= z.trips {
			s.Carriers = append(s.Carriers, z.carrier(r))
		}
	}
	return s
}

// eachSupply calls visit for random supplies, with their loads.
func eachSupply(t *testing.T, z size, seed int64, cases int, visit func(r *rand.Rand, s api.Supply, loads [][]int)) {
	t.Helper()
	r := rand.New(rand.NewSource(seed))
	for i := range cases {
		s := z.supply(r)
		visit(r, s, loadsOf(s))
		if t.Failed() {
			t.Fatalf("case %d: %+v", i, s)
		}
	}
}

// oneMore returns a supply with one more observation of a weather that is
// possible, if there is an hour for it.
func oneMore(r *rand.Rand, s api.Supply) (api.Supply, bool) {
	sky := pickWeather(r, s)
	hour := r.Intn(len(sky))
	if len(s.Seen) == api.MaxSights || slices.ContainsFunc(s.Seen, func(x api.Sight) bool { return x.Hour == hour }) {
		return s, false
	}
	return seeing(s, api.Sight{Hour: hour, Sky: sky[hour]}), true
}

// windowIn returns the hour at which the first window of a weather begins, or
// -1.
func windowIn(sky []api.Sky, l api.Limits, length int) int {
	kept := 0
	for hour, s := range sky {
		kept++
		if s.Wind > l.Wind || s.Rain > l.Rain || s.Temp < l.Temp.Low || s.Temp > l.Temp.High {
			kept = 0
		}
		if kept == length {
			return hour - length + 1
		}
	}
	return -1
}

// lastWindow is what the chapter of weather says of the window of a carrier.
func lastWindow(t *testing.T, s api.Supply, carrier, length int) int {
	t.Helper()
	_, last, e := weather.Window(s.Forecast, s.Seen, s.Carriers[carrier].Limits, length)
	if e != api.OK {
		t.Fatalf("Window: %d", e)
	}
	return last
}

// leastCost returns what Plan says, and whether there is a plan.
func leastCost(t *testing.T, s api.Supply) (cost int, ok bool) {
	t.Helper()
	_, cost, e := supply.Plan(s)
	if e != api.OK && e != api.ErrNone {
		t.Fatalf("Plan: %d", e)
	}
	return cost, e == api.OK
}
