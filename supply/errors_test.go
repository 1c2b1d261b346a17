package supply_test

import (
	"math"
	"math/rand"
	"reflect"
	"slices"
	"strings"
	"testing"

	"bivouac/api"
	"bivouac/supply"
)

// arguments are all that the functions of the package have.
type arguments struct {
	s               api.Supply
	trips           []api.Trip
	uses            []int
	carrier, length int
}

// calls are all functions of the package; each returns the other results, and
// the error.
var calls = []struct {
	name string
	call func(a arguments) ([]any, api.Errno)
	// uses tells what, beside a supply, can be wrong with the arguments.
	uses string
}{
	{"Check", func(a arguments) ([]any, api.Errno) { return nil, supply.Check(a.s) }, ""},
	{"Loads", func(a arguments) ([]any, api.Errno) {
		loads, e := supply.Loads(a.s)
		return []any{loads}, e
	}, ""},
	{"Next", func(a arguments) ([]any, api.Errno) {
		hours, enough, e := supply.Next(a.s, a.carrier, a.length)
		return []any{hours, enough}, e
	}, "carrier length window"},
	{"Stocks", func(a arguments) ([]any, api.Errno) {
		stocks, e := supply.Stocks(a.s, a.trips, a.uses)
		return []any{stocks}, e
	}, "trips uses"},
	{"Lasts", func(a arguments) ([]any, api.Errno) {
		sure, may, fits, e := supply.Lasts(a.s, a.trips)
		return []any{sure, may, fits}, e
	}, "trips"},
	{"Plan", func(a arguments) ([]any, api.Errno) {
		trips, cost, e := supply.Plan(a.s)
		return []any{trips, cost}, e
	}, "plan"},
	{"Proof", func(a arguments) ([]any, api.Errno) {
		bounds, e := supply.Proof(a.s)
		return []any{bounds}, e
	}, "plan"},
}

// steps are the errors in their order: what makes an argument wrong, and the
// error.
var steps = []struct {
	name  string
	spoil func(a *arguments)
	e     api.Errno
}{
	{"forecast", func(a *arguments) { a.s.Forecast.Scenarios[1].Hours[5].Wind.High = api.MaxWind + 1 }, api.ErrForecast},
	{"sights", func(a *arguments) { a.s.Seen = append(a.s.Seen, sight(0, 15)) }, api.ErrSight},
	{"scenarios", func(a *arguments) { a.s.Seen[0].Sky.Wind = 46 }, api.ErrNone},
	{"store", func(a *arguments) { a.s.Store.Stock = a.s.Store.Room + 1 }, api.ErrStore},
	{"carriers", func(a *arguments) { a.s.Carriers[1].Cost = -1 }, api.ErrCarrier},
	{"trips", func(a *arguments) { a.trips = append(a.trips, api.Trip{Hour: 6}) }, api.ErrTrips},
	{"carrier", func(a *arguments) { a.carrier = 2 }, api.ErrArg},
	{"length", func(a *arguments) { a.length = 0 }, api.ErrArg},
	{"uses", func(a *arguments) { a.uses[0] = 4 }, api.ErrUse},
	{"window", func(a *arguments) { a.s.Carriers[0].Limits.Wind = 0 }, api.ErrNone},
	{"plan", func(a *arguments) { a.s.Store.Use.High = api.MaxUse }, api.ErrNone},
}

// hasStep reports whether a function can find the error of a step.
func hasStep(uses, step string) bool {
	return slices.Contains(strings.Fields("forecast sights scenarios store carriers "+uses), step)
}

func goodArguments() arguments {
	return arguments{
		s: seeing(exampleS(), sight(0, 30)), trips: trips(1, 2, 4), uses: []int{5, 8, 6, 7, 5, 8},
		carrier: 0, length: 2,
	}
}

func isZero(results []any) bool {
	return !slices.ContainsFunc(results, func(x any) bool {
		v := reflect.ValueOf(x)
		return !v.IsZero() && (v.Kind() != reflect.Slice || v.Len() > 0)
	})
}

// check calls all functions that can find the error of a step.
func check(t *testing.T, what string, i int, step string, a arguments, want api.Errno) {
	t.Helper()
	for _, f := range calls {
		if !hasStep(f.uses, step) {
			continue
		}
		if results, e := f.call(a); e != want || e != api.OK && !isZero(results) {
			t.Errorf("%s with %s %d: %v, %d, want %d", f.name, what, i, results, e, want)
		}
	}
}

// TestP1_order: each function returns the first of several errors, and then all
// its other results are zero. From some step on all that a function has is wrong.
func TestP1_order(t *testing.T) {
	for first := range len(steps) + 1 {
		a := goodArguments()
		for i := len(steps) - 1; i >= first; i-- {
			steps[i].spoil(&a)
		}
		for _, f := range calls {
			want := api.OK
			for _, step := range steps[first:] {
				if want == api.OK && hasStep(f.uses, step.name) {
					want = step.e
				}
			}
			if results, e := f.call(a); e != want || e != api.OK && !isZero(results) {
				t.Errorf("%s with errors from %d on: %v, %d, want %d", f.name, first, results, e, want)
			}
		}
	}
}

// TestP1_pairs: so it is with any one error, and any two.
func TestP1_pairs(t *testing.T) {
	for i, one := range steps {
		a := goodArguments()
		one.spoil(&a)
		check(t, "wrong "+one.name, i, one.name, a, one.e)
		for _, two := range steps[i+1:] {
			a := goodArguments()
			two.spoil(&a)
			one.spoil(&a)
			for _, f := range calls {
				if !hasStep(f.uses, one.name) || !hasStep(f.uses, two.name) {
					continue
				}
				if results, e := f.call(a); e != one.e || !isZero(results) {
					t.Errorf("%s with wrong %s and %s: %v, %d, want %d", f.name, one.name, two.name, results, e, one.e)
				}
			}
		}
	}
}

// TestP6_1_Check: valid supplies at all limits.
func TestP6_1_Check(t *testing.T) {
	heavy := api.Carrier{Lift: api.MaxLift, Heat: api.MaxHeat, Cost: api.MaxPrice, Limits: widest()}
	most, _ := full(api.MaxPrice)
	for i, s := range []api.Supply{
		exampleS(), seeing(exampleS(), sight(0, 30)), calm(1, store(0, 0, 0, 0, 0)), most,
		calm(api.MaxHours, store(api.MaxStore, api.MaxStore, api.MaxStore, 0, 0), heavy, heavy, heavy, heavy),
		calm(1, store(0, 0, api.MaxStore, api.MaxUse, api.MaxUse), api.Carrier{}), calm(1, store(0, api.MaxStore, api.MaxStore, 0, api.MaxUse), heavy),
		calm(1, store(7, 0, 7, 0, 0)), calm(1, store(0, 7, 7, 0, 0)),
		calm(1, store(0, 0, 0, 0, 0), api.Carrier{Limits: api.Limits{Temp: span(-50, -50)}}, api.Carrier{Limits: api.Limits{Wind: api.MaxWind, Temp: span(50, 50)}}),
		{Forecast: exampleF(), Seen: []api.Sight{}, Carriers: []api.Carrier{}},
	} {
		if e := supply.Check(s); e != api.OK {
			t.Errorf("Check of the valid supply %d: %d", i, e)
		}
	}
}

// TestP1_forecasts: what makes a forecast or observations invalid is told by
// weather; here are some ways.
func TestP1_forecasts(t *testing.T) {
	for i, change := range []func(f *api.Forecast){
		func(f *api.Forecast) { f.Scenarios = nil }, func(f *api.Forecast) { f.Scenarios = make([]api.Scenario, 2) }, func(f *api.Forecast) { f.Scenarios = slices.Repeat(f.Scenarios, 4) },
		func(f *api.Forecast) { f.Scenarios[0].Hours = f.Scenarios[0].Hours[:5] }, func(f *api.Forecast) { f.Scenarios[0].Hours[0].Rain = span(2, 1) }, func(f *api.Forecast) { f.Scenarios[0].Hours[3].Temp.Low = -51 },
		func(f *api.Forecast) { *f = forecast(slices.Repeat([]api.Hour{warm(0, 0)}, api.MaxHours+1)) },
	} {
		a := goodArguments()
		change(&a.s.Forecast)
		check(t, "the invalid forecast", i, "forecast", a, api.ErrForecast)
	}
	for i, seen := range [][]api.Sight{
		{sight(-1, 15)}, {sight(6, 15)}, {sight(3, 15), sight(3, 15)}, {sight(3, 201)}, {{Sky: api.Sky{Temp: -51}}}, slices.Repeat([]api.Sight{sight(1, 15)}, api.MaxSights+1),
	} {
		a := goodArguments()
		a.s.Seen = seen
		check(t, "the invalid observations", i, "sights", a, api.ErrSight)
	}
	for i, seen := range [][]api.Sight{{sight(0, 9)}, {sight(0, 30), sight(5, 60)}, {{Sky: api.Sky{Wind: 15, Temp: -1}}}} {
		a := goodArguments()
		a.s.Seen = seen
		check(t, "impossible observations", i, "scenarios", a, api.ErrNone)
	}
}

// TestP1_stores: each number of a store outside its limits.
func TestP1_stores(t *testing.T) {
	for i, s := range []api.Store{
		store(-1, 10, 60, 5, 8), store(61, 10, 60, 5, 8), store(math.MinInt, 10, 60, 5, 8), store(math.MaxInt, 10, 60, 5, 8),
		store(30, -1, 60, 5, 8), store(30, 61, 60, 5, 8), store(30, math.MinInt, 60, 5, 8), store(30, math.MaxInt, 60, 5, 8),
		store(30, 10, 5001, 5, 8), store(30, 10, 29, 5, 8), store(10, 30, 29, 5, 8), store(0, 0, -1, 5, 8), store(-1, -1, -1, 5, 8), store(30, 10, math.MaxInt, 5, 8), store(30, 10, math.MinInt, 5, 8),
		store(30, 10, 60, -1, 8), store(30, 10, 60, 9, 8), store(30, 10, 60, 5, 501), store(30, 10, 60, 501, 501), store(30, 10, 60, -1, -1), store(30, 10, 60, math.MinInt, math.MaxInt), store(30, 10, 60, math.MaxInt, math.MinInt),
	} {
		a := goodArguments()
		a.s.Store = s
		check(t, "the invalid store", i, "store", a, api.ErrStore)
	}
}

// TestP1_carriers: too many carriers, and each number of one outside its limits.
func TestP1_carriers(t *testing.T) {
	for i, change := range []func(c *api.Carrier){
		func(c *api.Carrier) { c.Lift = -1 }, func(c *api.Carrier) { c.Lift = api.MaxLift + 1 }, func(c *api.Carrier) { c.Lift = math.MaxInt }, func(c *api.Carrier) { c.Lift = math.MinInt },
		func(c *api.Carrier) { c.Heat = -1 }, func(c *api.Carrier) { c.Heat = api.MaxHeat + 1 }, func(c *api.Carrier) { c.Heat = math.MaxInt }, func(c *api.Carrier) { c.Heat = math.MinInt },
		func(c *api.Carrier) { c.Cost = -1 }, func(c *api.Carrier) { c.Cost = api.MaxPrice + 1 }, func(c *api.Carrier) { c.Cost = math.MaxInt }, func(c *api.Carrier) { c.Cost = math.MinInt },
		func(c *api.Carrier) { c.Limits.Wind = -1 }, func(c *api.Carrier) { c.Limits.Wind = api.MaxWind + 1 }, func(c *api.Carrier) { c.Limits.Rain = -1 }, func(c *api.Carrier) { c.Limits.Rain = api.MaxRain + 1 },
		func(c *api.Carrier) { c.Limits.Temp = span(-51, 5) }, func(c *api.Carrier) { c.Limits.Temp = span(5, 51) }, func(c *api.Carrier) { c.Limits.Temp = span(5, 4) }, func(c *api.Carrier) { c.Limits.Temp = span(math.MaxInt, math.MinInt) },
	} {
		for carrier := range 2 {
			a := goodArguments()
			change(&a.s.Carriers[carrier])
			check(t, "the invalid carrier", i, "carriers", a, api.ErrCarrier)
		}
	}
	for _, count := range []int{api.MaxCarriers + 1, 1000} {
		a := goodArguments()
		a.s.Carriers = slices.Repeat(a.s.Carriers[:1], count)
		check(t, "too many carriers", count, "carriers", a, api.ErrCarrier)
	}
}

// TestP1_trips: trips of no hour and of no carrier, those without a load, in the
// wrong order, and too many of them.
func TestP1_trips(t *testing.T) {
	for i, list := range [][]api.Trip{
		trips(1, -1), trips(1, 6), trips(1, math.MinInt), trips(1, math.MaxInt), trips(-1, 2), trips(2, 2), trips(math.MinInt, 2), trips(math.MaxInt, 2),
		// the carrier 0 does not go in the hour 1
		trips(0, 1), append(trips(1, 0), trips(0, 1)...), trips(0, 0, 2, 3, 1),
		trips(1, 2, 2), trips(1, 2, 1), {{Hour: 2, Carrier: 1}, {Hour: 2}}, {{Hour: 3}, {Hour: 2, Carrier: 1}}, {{Hour: 2}, {Hour: 2, Carrier: 1}, {Hour: 2}}, slices.Repeat(trips(1, 2), api.MaxTrips+1), slices.Repeat(trips(1, 2), 10000),
	} {
		a := goodArguments()
		a.trips = list
		check(t, "the invalid trips", i, "trips", a, api.ErrTrips)
		a.uses = nil
		check(t, "the invalid trips", i, "trips", a, api.ErrTrips)
	}
	a := goodArguments()
	a.s.Carriers[0].Lift, a.s.Carriers[0].Heat, a.trips = 20, 2, trips(0, 2)
	check(t, "a load that the heat makes 0", 2, "trips", a, api.ErrTrips)
	a.s.Carriers = nil
	check(t, "a trip without carriers", 2, "trips", a, api.ErrTrips)
	for i, list := range [][]api.Trip{nil, {}, trips(1, 0, 1, 2, 3, 4, 5), trips(0, 0, 2), {{Hour: 2}, {Hour: 2, Carrier: 1}, {Hour: 3}}} {
		a := goodArguments()
		a.trips = list
		check(t, "the valid trips", i, "trips", a, api.OK)
	}
}

// TestP1_uses: too few and too many amounts, and those that cannot be used.
func TestP1_uses(t *testing.T) {
	for i, uses := range [][]int{
		nil, {}, {5, 5, 5, 5, 5}, {5, 5, 5, 5, 5, 5, 5}, slices.Repeat([]int{5}, 1000), {4, 5, 5, 5, 5, 5}, {5, 5, 5, 5, 5, 9}, {5, 5, -5, 5, 5, 5}, {5, 5, math.MinInt, 5, 5, 5}, {5, 5, math.MaxInt, 5, 5, 5},
	} {
		a := goodArguments()
		a.uses = uses
		check(t, "the invalid amounts", i, "uses", a, api.ErrUse)
	}
	for i, uses := range [][]int{{5, 5, 5, 5, 5, 5}, {8, 8, 8, 8, 8, 8}} {
		a := goodArguments()
		a.uses = uses
		check(t, "the valid amounts", i, "uses", a, api.OK)
	}
}

// TestP1_arguments: each carrier and each length outside its limits, and at them.
func TestP1_arguments(t *testing.T) {
	for _, bad := range []int{-1, 2, 4, math.MinInt, math.MaxInt} {
		a := goodArguments()
		a.carrier = bad
		check(t, "the carrier", bad, "carrier", a, api.ErrArg)
	}
	for _, bad := range []int{-1, 0, api.MaxHours + 1, math.MinInt, math.MaxInt} {
		a := goodArguments()
		a.length = bad
		check(t, "the length", bad, "length", a, api.ErrArg)
	}
	for _, good := range []int{0, 1} {
		a := goodArguments()
		a.carrier, a.length = good, 1
		check(t, "the carrier", good, "carrier", a, api.OK)
	}
	for length, want := range map[int]api.Errno{1: api.OK, 4: api.OK, 5: api.ErrNone, 6: api.ErrNone, 7: api.ErrNone, api.MaxHours: api.ErrNone} {
		a := goodArguments()
		a.length = length
		check(t, "the length", length, "length", a, want)
	}
	a := goodArguments()
	a.s.Carriers = nil
	check(t, "no carriers", 0, "carrier", a, api.ErrArg)
}

// spoilResults writes into all memory of results.
func spoilResults(results []any) {
	for _, x := range results {
		switch x := x.(type) {
		case []int:
			for i := range x {
				x[i] = -7
			}
		case [][]int:
			for i := range x {
				for j := range x[i] {
					x[i][j] = -7
				}
				x[i] = nil
			}
		case []api.Trip:
			for i := range x {
				x[i] = api.Trip{Hour: -7}
			}
		case []api.Bound:
			for i := range x {
				x[i] = api.Bound{Hour: -7}
			}
		}
	}
}

// TestP1_memory: no argument is changed, no result shares memory with one, and
// nothing is kept.
func TestP1_memory(t *testing.T) {
	for _, f := range calls {
		given := goodArguments()
		first, _ := f.call(given)
		spoilResults(first)
		if !reflect.DeepEqual(given, goodArguments()) {
			t.Errorf("%s changes its arguments: %+v", f.name, given)
		}
		again, _ := f.call(given)
		if fresh, _ := f.call(goodArguments()); !reflect.DeepEqual(again, fresh) {
			t.Errorf("%s keeps something: %v, %v", f.name, again, fresh)
		}
	}
	loads, _ := supply.Loads(calm(2, store(0, 0, 0, 0, 0), cable(5, 0), cable(5, 0)))
	loads[0][0] = -7
	_ = append(loads[0], -7)
	if !slices.Equal(loads[1], []int{5, 5}) {
		t.Error("the rows of Loads share memory")
	}
}

// TestP1_capacity: what lies behind the end of a slice is neither read nor
// changed; nil and empty slices are the same.
func TestP1_capacity(t *testing.T) {
	a := goodArguments()
	a.s.Forecast.Scenarios = append(a.s.Forecast.Scenarios, api.Scenario{})[:2]
	a.s.Seen, a.s.Carriers = append(a.s.Seen, sight(-1, -1))[:1], append(a.s.Carriers, cable(-1, -1))[:2]
	a.trips, a.uses = append(a.trips, api.Trip{Hour: -1})[:2], append(a.uses, -1)[:6]
	for _, f := range calls {
		results, e := f.call(a)
		if want, e2 := f.call(goodArguments()); !reflect.DeepEqual(results, want) || e != e2 {
			t.Errorf("%s: %v, %d, want %v, %d", f.name, results, e, want, e2)
		}
	}
	if a.s.Carriers[:3][2].Lift != -1 || a.s.Seen[:2][1].Hour != -1 || a.trips[:3][2].Hour != -1 || a.uses[:7][6] != -1 {
		t.Errorf("something behind the end of a slice is changed: %+v", a)
	}
	bare := arguments{s: calm(2, store(9, 1, 9, 2, 3)), uses: []int{2, 3}}
	empty := bare
	empty.s.Seen, empty.s.Carriers, empty.trips = []api.Sight{}, []api.Carrier{}, []api.Trip{}
	for _, f := range calls {
		want, e := f.call(bare)
		if results, e2 := f.call(empty); !reflect.DeepEqual(results, want) || e2 != e {
			t.Errorf("%s of empty slices: %v, %d, want %v, %d", f.name, results, e2, want, e)
		}
	}
}

// TestP1_any: no function panics, and each terminates, for wild arguments; a
// supply that is not valid is told from one that is.
func TestP1_any(t *testing.T) {
	r := rand.New(rand.NewSource(1))
	values := []int{math.MinInt, -51, -2, -1, 0, 0, 0, 1, 1, 2, 3, 5, 6, 7, 8, 47, 48, 49, 50, 100, 500, 1000, 5000, 10001, math.MaxInt}
	number := func() int { return values[r.Intn(len(values))] }
	for range 5000 {
		a := goodArguments()
		for range r.Intn(4) {
			c, h := &a.s.Carriers[r.Intn(2)], &a.s.Forecast.Scenarios[r.Intn(2)].Hours[r.Intn(6)]
			field := []*int{
				&a.s.Store.Stock, &a.s.Store.Reserve, &a.s.Store.Room, &a.s.Store.Use.Low, &a.s.Store.Use.High, &c.Lift, &c.Heat, &c.Cost, &c.Limits.Wind, &c.Limits.Temp.High,
				&h.Wind.Low, &h.Rain.High, &h.Temp.High, &a.s.Seen[0].Hour, &a.s.Seen[0].Sky.Wind, &a.trips[0].Hour, &a.trips[1].Carrier, &a.uses[3], &a.carrier, &a.length,
			}
			*field[r.Intn(len(field))] = number()
		}
		e := supply.Check(a.s)
		for _, f := range calls {
			if results, e2 := f.call(a); e != api.OK && e2 != e || e2 != api.OK && !isZero(results) {
				t.Errorf("%s of %+v: %v, %d, but Check: %d", f.name, a, results, e2, e)
			}
		}
	}
}
