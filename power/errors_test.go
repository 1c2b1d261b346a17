package power_test

import (
	"math"
	"math/rand"
	"reflect"
	"slices"
	"strings"
	"testing"

	"bivouac/api"
	"bivouac/power"
)

// arguments are all that the functions of the package have.
type arguments struct {
	p       api.Plant
	burn    []int
	weather []api.Sky
}

// calls are all functions of the package; each returns the other results, and the
// error.
var calls = []struct {
	name string
	call func(a arguments) ([]any, api.Errno)
	// uses tells what, beside a plant, can be wrong with the arguments.
	uses string
}{
	{"Check", func(a arguments) ([]any, api.Errno) { return nil, power.Check(a.p) }, ""},
	{"Yields", func(a arguments) ([]any, api.Errno) {
		yields, e := power.Yields(a.p)
		return []any{yields}, e
	}, ""},
	{"Levels", func(a arguments) ([]any, api.Errno) {
		levels, lost, e := power.Levels(a.p, a.burn, a.weather)
		return []any{levels, lost}, e
	}, "burn sky"},
	{"Lasts", func(a arguments) ([]any, api.Errno) {
		hours, e := power.Lasts(a.p, a.burn)
		return []any{hours}, e
	}, "burn"},
	{"Worst", func(a arguments) ([]any, api.Errno) {
		weather, e := power.Worst(a.p, a.burn)
		return []any{weather}, e
	}, "burn worst"},
	{"Plan", func(a arguments) ([]any, api.Errno) {
		burn, units, e := power.Plan(a.p)
		return []any{burn, units}, e
	}, "plan"},
	{"Spare", func(a arguments) ([]any, api.Errno) {
		spare, e := power.Spare(a.p)
		return []any{spare}, e
	}, "plan"},
	{"Least", func(a arguments) ([]any, api.Errno) {
		least, e := power.Least(a.p)
		return []any{least}, e
	}, "plan"},
}

// steps are the errors in their order: what makes an argument wrong, and the error. What
// comes in a step after that of the plant leaves the plant valid.
var steps = []struct {
	name  string
	spoil func(a *arguments)
	e     api.Errno
}{
	{"forecast", func(a *arguments) { a.p.Forecast.Scenarios[1].Hours[5].Wind.High = api.MaxWind + 1 }, api.ErrForecast},
	{"sights", func(a *arguments) { a.p.Seen = append(a.p.Seen, sight(1, 20)) }, api.ErrSight},
	{"scenarios", func(a *arguments) { a.p.Seen[0].Sky.Wind = 46 }, api.ErrNone},
	{"plant", func(a *arguments) { a.p.Sun[5] = -1 }, api.ErrPlant},
	{"burn", func(a *arguments) { a.burn[0] = 3 }, api.ErrBurn},
	{"sky", func(a *arguments) { a.weather[1].Wind = 19 }, api.ErrSky},
	{"worst", func(a *arguments) { a.p.Needs = make([]int, 6) }, api.ErrNone},
	{"plan", func(a *arguments) { a.p.Needs[0] = api.MaxPower }, api.ErrNone},
}

// hasStep reports whether a function can find the error of a step.
func hasStep(uses, step string) bool {
	return slices.Contains(strings.Fields("forecast sights scenarios plant "+uses), step)
}

// goodArguments are arguments with which no function has an error.
func goodArguments() arguments {
	return arguments{p: seeing(exampleP(), sight(1, 20)), burn: []int{0, 0, 0, 0, 1, 0}, weather: exampleWeather()}
}

func isZero(results []any) bool {
	return !slices.ContainsFunc(results, func(x any) bool {
		v := reflect.ValueOf(x)
		return !v.IsZero() && (v.Kind() != reflect.Slice || v.Len() > 0)
	})
}

// check calls all functions that can find the error of a step, with changed arguments.
func check(t *testing.T, what string, i int, step string, change func(a *arguments), want api.Errno) {
	t.Helper()
	for _, f := range calls {
		if !hasStep(f.uses, step) {
			continue
		}
		a := goodArguments()
		change(&a)
		if results, e := f.call(a); e != want || e != api.OK && !isZero(results) {
			t.Errorf("%s with %s %d: %v, %d, want %d", f.name, what, i, results, e, want)
		}
	}
}

// TestP1_order: each function returns the first of several errors, and then all its
// other results are zero. From some step on all that a function has is wrong.
func TestP1_order(t *testing.T) {
	for _, f := range calls {
		for first := range len(steps) + 1 {
			a, want := goodArguments(), api.OK
			for i := len(steps) - 1; i >= first; i-- {
				if hasStep(f.uses, steps[i].name) {
					steps[i].spoil(&a)
					want = steps[i].e
				}
			}
			if results, e := f.call(a); e != want || e != api.OK && !isZero(results) {
				t.Errorf("%s with errors from %d on: %v, %d, want %d", f.name, first, results, e, want)
			}
		}
	}
}

// TestP1_pairs: so it is with any one error, and any two.
func TestP1_pairs(t *testing.T) {
	for i, one := range steps {
		check(t, "wrong "+one.name, i, one.name, one.spoil, one.e)
		for _, two := range steps[i+1:] {
			for _, f := range calls {
				if !hasStep(f.uses, one.name) || !hasStep(f.uses, two.name) {
					continue
				}
				a := goodArguments()
				two.spoil(&a)
				one.spoil(&a)
				if results, e := f.call(a); e != one.e || !isZero(results) {
					t.Errorf("%s with wrong %s and %s: %v, %d, want %d", f.name, one.name, two.name, results, e, one.e)
				}
			}
		}
	}
}

// TestP1_forecasts: what makes a forecast or observations invalid is told by weather;
// here are some ways.
func TestP1_forecasts(t *testing.T) {
	for i, change := range []func(f *api.Forecast){
		func(f *api.Forecast) { f.Scenarios = nil }, func(f *api.Forecast) { f.Scenarios = make([]api.Scenario, 2) }, func(f *api.Forecast) { f.Scenarios = slices.Repeat(f.Scenarios, 4) },
		func(f *api.Forecast) { f.Scenarios[0].Hours = f.Scenarios[0].Hours[:5] }, func(f *api.Forecast) { f.Scenarios[0].Hours[0].Rain = span(2, 1) }, func(f *api.Forecast) { f.Scenarios[0].Hours[3].Temp.Low = -51 }, func(f *api.Forecast) { f.Scenarios[0].Hours[3].Rain.High = 101 },
		func(f *api.Forecast) { *f = forecast(make([]api.Hour, api.MaxHours+1)) },
	} {
		check(t, "the invalid forecast", i, "forecast", func(a *arguments) { change(&a.p.Forecast) }, api.ErrForecast)
	}
	check(t, "nothing at all", 0, "forecast", func(a *arguments) { *a = arguments{} }, api.ErrForecast)
	for i, seen := range [][]api.Sight{
		{sight(-1, 15)}, {sight(6, 15)}, {sight(3, 15), sight(3, 15)}, {sight(3, 201)}, {{Sky: api.Sky{Wind: 15, Temp: -51}}}, slices.Repeat([]api.Sight{sight(1, 15)}, api.MaxSights+1),
	} {
		check(t, "the invalid observations", i, "sights", func(a *arguments) { a.p.Seen = seen }, api.ErrSight)
	}
	for i, seen := range [][]api.Sight{{sight(0, 9)}, {sight(0, 30), sight(5, 60)}, {{Sky: api.Sky{Wind: 15, Temp: -1}}}} {
		check(t, "impossible observations", i, "scenarios", func(a *arguments) { a.p.Seen = seen }, api.ErrNone)
	}
}

// wild are numbers that are never valid.
var wild = []int{math.MinInt, math.MaxInt, math.MinInt + 1, math.MaxInt - 1}

// checkNumber asks with a number at its limits, and outside of them.
func checkNumber(t *testing.T, what string, low, high int, field func(p *api.Plant) *int) {
	t.Helper()
	for _, x := range append([]int{low - 1, high + 1}, wild...) {
		check(t, what, x, "plant", func(a *arguments) { *field(&a.p) = x }, api.ErrPlant)
	}
	for _, x := range []int{low, high} {
		p := exampleP()
		*field(&p) = x
		if e := power.Check(p); e != api.OK {
			t.Errorf("Check with %s %d: %d", what, x, e)
		}
	}
}

// TestP10_1_Check: each number of a plant at its limits, and outside of them.
func TestP10_1_Check(t *testing.T) {
	for hour := range 6 {
		checkNumber(t, "the Sun", 0, 10000, func(p *api.Plant) *int { return &p.Sun[hour] })
		checkNumber(t, "the Needs", 0, 10000, func(p *api.Plant) *int { return &p.Needs[hour] })
	}
	checkNumber(t, "the Gain", 0, 100, func(p *api.Plant) *int { return &p.Gain })
	checkNumber(t, "Start", 0, 50, func(p *api.Plant) *int { return &p.Start })
	checkNumber(t, "Stop", 12, 200, func(p *api.Plant) *int { return &p.Stop })
	checkNumber(t, "Start and Stop", 0, 200, func(p *api.Plant) *int { p.Stop = 200; return &p.Start })
	checkNumber(t, "Stop and Start", 0, 200, func(p *api.Plant) *int { p.Start = 0; return &p.Stop })
	checkNumber(t, "the Charge", 0, 150, func(p *api.Plant) *int { return &p.Battery.Charge })
	checkNumber(t, "the Reserve", 0, 150, func(p *api.Plant) *int { return &p.Battery.Reserve })
	checkNumber(t, "the Capacity", 100, 100000, func(p *api.Plant) *int { return &p.Battery.Capacity })
	checkNumber(t, "the Capacity", 120, 100000, func(p *api.Plant) *int { p.Battery.Reserve = 120; return &p.Battery.Capacity })
	checkNumber(t, "the Capacity", 0, 100000, func(p *api.Plant) *int { p.Battery = battery(0, 0, 0); return &p.Battery.Capacity })
	checkNumber(t, "the Gas", 0, 10000, func(p *api.Plant) *int { return &p.Gas })
	checkNumber(t, "the Rate", 0, 10, func(p *api.Plant) *int { return &p.Rate })
	checkNumber(t, "the Units", 0, 200, func(p *api.Plant) *int { return &p.Units })
	for i, list := range [][]int{nil, {}, {1, 1, 1, 1, 1}, {1, 1, 1, 1, 1, 1, 1}, slices.Repeat([]int{1}, 1000)} {
		check(t, "the Sun of other hours", i, "plant", func(a *arguments) { a.p.Sun = list }, api.ErrPlant)
		check(t, "the Needs of other hours", i, "plant", func(a *arguments) { a.p.Needs = list }, api.ErrPlant)
		check(t, "both of other hours", i, "plant", func(a *arguments) { a.p.Sun, a.p.Needs = list, list }, api.ErrPlant)
	}
	check(t, "Start after Stop", 0, "plant", func(a *arguments) { a.p.Start, a.p.Stop = 51, 50 }, api.ErrPlant)
	check(t, "Start and Stop", 201, "plant", func(a *arguments) { a.p.Start, a.p.Stop = 201, 201 }, api.ErrPlant)
	check(t, "a battery that is", -1, "plant", func(a *arguments) { a.p.Battery = battery(-1, -1, -1) }, api.ErrPlant)
	for i, p := range []api.Plant{exampleP(), seeing(exampleP(), sight(0, 30)), still(1), still(api.MaxHours), fullPlant()} {
		if e := power.Check(p); e != api.OK {
			t.Errorf("Check of the valid plant %d: %d", i, e)
		}
	}
}

// TestP1_burns: burns with too few and too many hours, outside the rate, and with too
// many units, or just as many as there are.
func TestP1_burns(t *testing.T) {
	for i, x := range []struct {
		burn []int
		e    api.Errno
	}{
		{nil, api.ErrBurn}, {[]int{}, api.ErrBurn}, {[]int{0, 0, 0, 0, 0}, api.ErrBurn}, {[]int{0, 0, 0, 0, 0, 0, 0}, api.ErrBurn}, {make([]int, 1000), api.ErrBurn},
		{[]int{3, 0, 0, 0, 0, 0}, api.ErrBurn}, {[]int{0, 0, 0, 0, 0, 3}, api.ErrBurn}, {[]int{0, -1, 0, 0, 0, 0}, api.ErrBurn}, {[]int{0, 2, -1, 0, 0, 0}, api.ErrBurn}, {[]int{0, math.MinInt, 0, 0, 0, 0}, api.ErrBurn}, {[]int{math.MaxInt, math.MaxInt, 2, 0, 0, 0}, api.ErrBurn}, {[]int{math.MinInt, math.MinInt, 0, 0, 0, 0}, api.ErrBurn},
		{[]int{2, 2, 2, 2, 2, 0}, api.ErrBurn}, {[]int{2, 2, 2, 2, 2, 2}, api.ErrBurn}, {[]int{2, 2, 2, 2, 1, 0}, api.OK}, {[]int{0, 0, 0, 0, 0, 0}, api.OK}, {[]int{1, 2, 1, 2, 1, 2}, api.OK},
	} {
		for _, f := range calls {
			a := goodArguments()
			a.burn = x.burn
			results, e := f.call(a)
			want := api.OK
			if hasStep(f.uses, "burn") {
				want = x.e
			}
			lasts := f.name == "Worst" && e == api.ErrNone
			if e != want && !(want == api.OK && lasts) || e != api.OK && !isZero(results) {
				t.Errorf("%s with the burn %d: %v, %d, want %d", f.name, i, results, e, want)
			}
		}
	}
	none := func(a *arguments) { a.p.Units, a.p.Rate, a.burn[4] = 0, 0, 0 }
	check(t, "no gas", 0, "burn", none, api.OK)
	check(t, "a burn without units", 0, "burn", func(a *arguments) { a.p.Units = 0 }, api.ErrBurn)
	check(t, "a burn without a rate", 0, "burn", func(a *arguments) { a.p.Rate = 0 }, api.ErrBurn)
}

// TestP1_skies: too few and too many skies, those that no scenario has, not the one that
// was seen, and those of two scenarios together.
func TestP1_skies(t *testing.T) {
	gusty := func(winds ...int) []api.Sky {
		var list []api.Sky
		for _, wind := range winds {
			list = append(list, breeze(wind))
		}
		return list
	}
	for i, x := range []struct {
		weather []api.Sky
		e       api.Errno
	}{
		{nil, api.ErrSky}, {[]api.Sky{}, api.ErrSky}, {exampleWeather()[:5], api.ErrSky}, {append(exampleWeather(), breeze(30)), api.ErrSky}, {slices.Repeat(exampleWeather(), 100), api.ErrSky},
		{gusty(10, 20, 10, 10, 30, 60), api.OK}, {gusty(20, 20, 20, 20, 60, 30), api.OK}, {gusty(9, 20, 10, 10, 30, 60), api.ErrSky}, {gusty(10, 20, 10, 10, 30, 61), api.ErrSky}, {gusty(10, 20, 21, 10, 30, 60), api.ErrSky}, {gusty(10, 19, 10, 10, 30, 60), api.ErrSky}, {gusty(10, 20, 10, 10, 29, 60), api.ErrSky},
		{gusty(15, 20, 10, 10, 10, 20), api.OK}, {gusty(45, 20, 20, 20, 20, 10), api.OK}, {gusty(14, 20, 10, 10, 10, 20), api.ErrSky}, {gusty(46, 20, 10, 10, 10, 20), api.ErrSky},
		{gusty(45, 20, 10, 10, 30, 30), api.ErrSky}, {gusty(15, 20, 10, 10, 10, 30), api.ErrSky}, {gusty(math.MinInt, 20, 10, 10, 10, 10), api.ErrSky}, {gusty(15, 20, 10, 10, 10, math.MaxInt), api.ErrSky},
	} {
		check(t, "the weather", i, "sky", func(a *arguments) { a.weather = x.weather }, x.e)
	}
	for i, x := range []struct {
		sky api.Sky
		e   api.Errno
	}{
		{api.Sky{Wind: 20}, api.OK}, {api.Sky{Wind: 20, Temp: 10}, api.OK}, {api.Sky{Wind: 20, Temp: 11}, api.ErrSky}, {api.Sky{Wind: 20, Temp: -1}, api.ErrSky}, {api.Sky{Wind: 20, Rain: 1}, api.ErrSky}, {api.Sky{Wind: 20, Rain: -1}, api.ErrSky}, {api.Sky{Wind: 20, Rain: math.MinInt}, api.ErrSky}, {api.Sky{Wind: 20, Temp: math.MaxInt}, api.ErrSky},
	} {
		check(t, "the sky", i, "sky", func(a *arguments) { a.weather[3] = x.sky }, x.e)
	}
	// what was seen in the hour 1 tells its temperature, too
	for _, temp := range []int{0, 4, 6, 10} {
		check(t, "another temperature", temp, "sky", func(a *arguments) { a.weather[1].Temp = temp }, api.ErrSky)
	}
	impossible := func(a *arguments) { a.p.Seen = append(a.p.Seen, sight(0, 30)) }
	check(t, "the weather of an impossible scenario", 0, "sky", impossible, api.ErrSky)
}

// spoilResults writes into all memory of results.
func spoilResults(results []any) {
	for _, x := range results {
		switch x := x.(type) {
		case []int:
			for i := range x {
				x[i] = -7
			}
		case []api.Span:
			for i := range x {
				x[i] = exact(-7)
			}
		case []api.Sky:
			for i := range x {
				x[i] = breeze(-7)
			}
		}
	}
}

// TestP1_memory: no argument is changed, no result shares memory with one, and nothing
// is kept.
func TestP1_memory(t *testing.T) {
	for _, f := range calls {
		given := goodArguments()
		first, _ := f.call(given)
		spoilResults(first)
		if !reflect.DeepEqual(given, goodArguments()) {
			t.Errorf("%s changes its arguments: %+v", f.name, given)
		}
		again, _ := f.call(given)
		if fresh, _ := f.call(goodArguments()); !reflect.DeepEqual(again, fresh) {
			t.Errorf("%s keeps something: %v, %v", f.name, again, fresh)
		}
	}
}

// TestP1_capacity: what lies behind the end of a slice is neither read nor changed; nil
// and empty slices are the same.
func TestP1_capacity(t *testing.T) {
	a := goodArguments()
	a.p.Forecast.Scenarios, a.p.Seen = append(a.p.Forecast.Scenarios, api.Scenario{})[:2], append(a.p.Seen, sight(-1, -1))[:1]
	a.p.Sun, a.p.Needs = append(a.p.Sun, -1)[:6], append(a.p.Needs, -1)[:6]
	a.burn, a.weather = append(a.burn, -1)[:6], append(a.weather, breeze(-1))[:6]
	for _, f := range calls {
		results, e := f.call(a)
		if want, e2 := f.call(goodArguments()); !reflect.DeepEqual(results, want) || e != e2 {
			t.Errorf("%s: %v, %d, want %v, %d", f.name, results, e, want, e2)
		}
	}
	if a.p.Seen[:2][1].Hour != -1 || a.p.Sun[:7][6] != -1 || a.p.Needs[:7][6] != -1 || a.burn[:7][6] != -1 || a.weather[:7][6].Wind != -1 {
		t.Errorf("something behind the end of a slice is changed: %+v", a)
	}
	bare := arguments{p: exampleP(), burn: make([]int, 6), weather: exampleWeather()}
	empty := bare
	empty.p.Seen = []api.Sight{}
	for _, f := range calls {
		want, e := f.call(bare)
		if results, e2 := f.call(empty); !reflect.DeepEqual(results, want) || e2 != e {
			t.Errorf("%s of empty slices: %v, %d, want %v, %d", f.name, results, e2, want, e)
		}
	}
}

// TestP1_any: no function panics, and each terminates, for wild arguments; a plant that
// is not valid is told from one that is.
func TestP1_any(t *testing.T) {
	r := rand.New(rand.NewSource(1))
	values := []int{math.MinInt, -51, -2, -1, 0, 0, 0, 1, 1, 2, 3, 5, 6, 7, 10, 11, 12, 48, 50, 100, 150, 200, 201, 10000, 10001, 100000, math.MaxInt}
	number := func() int { return values[r.Intn(len(values))] }
	for range 5000 {
		a := goodArguments()
		for range r.Intn(4) {
			h := &a.p.Forecast.Scenarios[r.Intn(2)].Hours[r.Intn(6)]
			field := []*int{
				&a.p.Sun[r.Intn(6)], &a.p.Needs[r.Intn(6)], &a.p.Gain, &a.p.Start, &a.p.Stop, &a.p.Battery.Charge, &a.p.Battery.Capacity, &a.p.Battery.Reserve, &a.p.Gas, &a.p.Rate, &a.p.Units,
				&h.Wind.Low, &h.Rain.High, &h.Temp.High, &a.p.Seen[0].Hour, &a.p.Seen[0].Sky.Wind, &a.burn[r.Intn(6)], &a.weather[r.Intn(6)].Wind, &a.weather[r.Intn(6)].Rain,
			}
			*field[r.Intn(len(field))] = number()
		}
		e := power.Check(a.p)
		for _, f := range calls {
			if results, e2 := f.call(a); e != api.OK && e2 != e || e2 != api.OK && !isZero(results) {
				t.Errorf("%s of %+v: %v, %d, but Check: %d", f.name, a, results, e2, e)
			}
		}
	}
}

// fullPlant is a plant with as much as there may be of everything.
func fullPlant() api.Plant {
	hour := api.Hour{Wind: span(0, api.MaxWind), Rain: span(0, api.MaxRain), Temp: span(-api.MaxTemp, api.MaxTemp)}
	p := api.Plant{
		Gain: api.MaxGain, Stop: api.MaxWind, Battery: battery(api.MaxBattery, api.MaxBattery, api.MaxBattery),
		Gas: api.MaxPower, Rate: api.MaxRate, Units: api.MaxUnits,
	}
	for range api.MaxHours {
		p.Sun, p.Needs = append(p.Sun, api.MaxPower), append(p.Needs, api.MaxPower)
	}
	for range api.MaxScenarios {
		p.Forecast.Scenarios = append(p.Forecast.Scenarios, api.Scenario{Hours: slices.Repeat([]api.Hour{hour}, api.MaxHours)})
	}
	for i := range api.MaxSights {
		p.Seen = append(p.Seen, api.Sight{Hour: 2 * i, Sky: api.Sky{Wind: api.MaxWind, Rain: 100}})
	}
	return p
}

// TestP1_full: a plant of the greatest size.
func TestP1_full(t *testing.T) {
	p := fullPlant()
	// 20000 of the turbine in an hour that was seen, and else nothing
	want := slices.Repeat([]int{0, 1}, 20)
	want = append(want, slices.Repeat([]int{1}, 8)...)
	if burn, units, e := power.Plan(p); !slices.Equal(burn, want) || units != 28 || e != api.OK {
		t.Errorf("Plan = %v, %d, %d, want %v", burn, units, e, want)
	}
	p = needing(p, 0)
	for hour := range p.Needs {
		p.Needs[hour] = 0
	}
	if spare, e := power.Spare(p); spare != api.MaxPower || e != api.OK {
		t.Errorf("Spare = %d, %d", spare, e)
	}
	if least, e := power.Least(p); least != 0 || e != api.OK {
		t.Errorf("Least = %d, %d", least, e)
	}
	weather := slices.Repeat([]api.Sky{{Wind: api.MaxWind, Rain: 100}}, api.MaxHours)
	levels, lost, e := power.Levels(p, slices.Repeat([]int{4}, api.MaxHours), weather)
	if !slices.Equal(levels, slices.Repeat([]int{api.MaxBattery}, api.MaxHours)) || lost != 60000*api.MaxHours || e != api.OK {
		t.Errorf("Levels = %v, %d, %d", levels, lost, e)
	}
}
