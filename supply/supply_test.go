package supply_test

import (
	"reflect"
	"slices"
	"testing"

	"bivouac/api"
	"bivouac/supply"
)

// breezes returns a forecast of one scenario, by the winds of its hours.
func breezes(winds ...int) api.Forecast {
	var hours []api.Hour
	for _, wind := range winds {
		hours = append(hours, windy(wind, wind))
	}
	return forecast(hours)
}

// lifting returns a supply with a carrier that goes up to some wind, and is
// lighter by the heat.
func lifting(f api.Forecast, lift, heat, wind int) api.Supply {
	return api.Supply{Forecast: f, Store: store(0, 0, 0, 0, 0), Carriers: []api.Carrier{{Lift: lift, Heat: heat, Limits: maxWind(wind)}}}
}

// sameRows reports whether two tables are equal; nil and empty rows are.
func sameRows(a, b [][]int) bool { return slices.EqualFunc(a, b, slices.Equal[[]int]) }

// TestP6_2_Loads: the example, loads that the temperature makes less, or 0, and
// hours in which a carrier does not go, or just may go.
func TestP6_2_Loads(t *testing.T) {
	degrees := forecast([]api.Hour{warm(-9, -4), warm(-9, 0), warm(-9, 1), warm(2, 3), warm(4, 4), warm(5, 5), warm(50, 50)})
	apart := forecast([]api.Hour{warm(1, 2), warm(1, 2), warm(-5, -3)}, []api.Hour{warm(0, 7), warm(1, 1), warm(-5, -1)})
	hot := api.Sight{Hour: 3, Sky: api.Sky{Wind: 15, Temp: 9}}
	for i, x := range []struct {
		s    api.Supply
		want [][]int
	}{
		{exampleS(), [][]int{{0, 0, 10, 10, 0, 0}, {15, 15, 15, 15, 15, 15}}},
		// what was seen rules out a scenario, and tells the wind and the temperature
		{seeing(exampleS(), sight(0, 30)), [][]int{{15, 0, 10, 10, 10, 10}, {15, 15, 15, 15, 15, 15}}},
		{seeing(exampleS(), sight(0, 45)), [][]int{{0, 0, 10, 10, 10, 10}, {15, 15, 15, 15, 15, 15}}},
		{seeing(exampleS(), hot), [][]int{{0, 0, 10, 11, 0, 0}, {15, 15, 15, 15, 15, 15}}},
		{seeing(exampleS(), sight(5, 40)), [][]int{{10, 10, 10, 10, 0, 15}, {15, 15, 15, 15, 15, 15}}},
		// no load below 0 degrees is greater, and none is below 0
		{lifting(degrees, 20, 5, 0), [][]int{{20, 20, 15, 5, 0, 0, 0}}}, {lifting(degrees, 21, 5, 0), [][]int{{21, 21, 16, 6, 1, 0, 0}}},
		{lifting(degrees, 1000, 0, 0), [][]int{{1000, 1000, 1000, 1000, 1000, 1000, 1000}}}, {lifting(degrees, 0, 0, 0), [][]int{{0, 0, 0, 0, 0, 0, 0}}}, {lifting(degrees, 0, 50, 0), [][]int{{0, 0, 0, 0, 0, 0, 0}}},
		{lifting(degrees, 1000, 50, 0), [][]int{{1000, 1000, 950, 850, 800, 750, 0}}}, {lifting(degrees, 1, 1, 0), [][]int{{1, 1, 0, 0, 0, 0, 0}}},
		// the greatest temperature of all possible scenarios
		{lifting(apart, 20, 2, 0), [][]int{{6, 16, 20}}}, {seeing(lifting(apart, 20, 2, 0), api.Sight{Hour: 1, Sky: api.Sky{Temp: 2}}), [][]int{{16, 16, 20}}},
		{seeing(lifting(apart, 20, 2, 0), api.Sight{Hour: 0, Sky: api.Sky{Temp: 6}}), [][]int{{8, 18, 20}}}, {seeing(lifting(apart, 20, 2, 0), api.Sight{Hour: 0, Sky: api.Sky{Temp: 1}}), [][]int{{18, 16, 20}}},
		// a carrier that may go does not go
		{lifting(exampleF(), 7, 0, 29), [][]int{{0, 0, 7, 7, 0, 0}}}, {lifting(exampleF(), 7, 0, 19), [][]int{{0, 0, 0, 0, 0, 0}}}, {lifting(exampleF(), 7, 0, 20), [][]int{{0, 0, 7, 7, 0, 0}}},
		{lifting(exampleF(), 7, 0, 45), [][]int{{7, 7, 7, 7, 0, 0}}}, {lifting(exampleF(), 7, 0, 60), [][]int{{7, 7, 7, 7, 7, 7}}}, {lifting(breezes(3), 7, 0, 2), [][]int{{0}}}, {lifting(breezes(3), 7, 0, 3), [][]int{{7}}},
		// by the rain and the cold, too
		{api.Supply{Forecast: forecast([]api.Hour{{Rain: span(0, 3), Temp: span(-4, 4)}}), Carriers: []api.Carrier{
			{Lift: 9, Limits: api.Limits{Rain: 3, Temp: span(-4, 4)}}, {Lift: 9, Limits: api.Limits{Rain: 2, Temp: span(-4, 4)}},
			{Lift: 9, Limits: api.Limits{Rain: 3, Temp: span(-3, 4)}}, {Lift: 9, Limits: api.Limits{Rain: 3, Temp: span(-4, 3)}},
		}}, [][]int{{9}, {0}, {0}, {0}}},
		{calm(api.MaxHours, store(0, 0, 0, 0, 0)), nil},
		{calm(api.MaxHours, store(0, 0, 0, 0, 0), cable(1, 0), cable(2, 0), cable(3, 0), cable(4, 0)), [][]int{
			slices.Repeat([]int{1}, 48), slices.Repeat([]int{2}, 48), slices.Repeat([]int{3}, 48), slices.Repeat([]int{4}, 48),
		}},
	} {
		if loads, e := supply.Loads(x.s); !sameRows(loads, x.want) || e != api.OK {
			t.Errorf("%d: Loads = %v, %d, want %v", i, loads, e, x.want)
		}
	}
}

// TestP6_3_Next: the examples, windows that begin at once, at the last hour at
// which they can, and never, and a store that is just enough, or just is not.
func TestP6_3_Next(t *testing.T) {
	// waiting returns a supply whose carrier goes when there is no wind.
	waiting := func(s api.Store, winds ...int) api.Supply {
		return api.Supply{Forecast: breezes(winds...), Store: s, Carriers: []api.Carrier{cable(1, 1), {Limits: maxWind(0)}}}
	}
	long := calm(api.MaxHours, store(96, 1, 96, 1, 2), cable(1, 1), cable(1, 1))
	for i, x := range []struct {
		s      api.Supply
		length int
		hours  int
		enough bool
		e      api.Errno
	}{
		// at once
		{waiting(store(30, 10, 60, 5, 8), 0, 9, 9), 1, 0, true, api.OK}, {waiting(store(30, 10, 60, 5, 8), 0, 0, 0), 3, 0, true, api.OK},
		{long, 1, 0, true, api.OK}, {long, api.MaxHours, 0, true, api.OK},
		// no hour passes, so that there is none after which too little is left
		{waiting(store(0, 10, 60, 5, 8), 0, 9, 9), 1, 0, true, api.OK},
		// at the last hour that is possible
		{waiting(store(30, 6, 60, 5, 8), 9, 9, 9, 0), 1, 3, true, api.OK}, {waiting(store(30, 6, 60, 5, 8), 9, 0, 9, 0, 0), 2, 3, true, api.OK}, {waiting(store(30, 7, 60, 5, 8), 9, 9, 9, 0), 1, 3, false, api.OK},
		// never
		{waiting(store(30, 10, 60, 5, 8), 9, 9, 9), 1, 0, false, api.ErrNone}, {waiting(store(30, 10, 60, 5, 8), 0, 9, 0), 2, 0, false, api.ErrNone}, {waiting(store(30, 10, 60, 5, 8), 0, 0, 0), 4, 0, false, api.ErrNone}, {waiting(store(30, 10, 60, 5, 8), 0), api.MaxHours, 0, false, api.ErrNone},
		// just enough until the window begins, and for one hour less
		{waiting(store(30, 10, 60, 0, 5), 9, 9, 9, 9, 0), 1, 4, true, api.OK}, {waiting(store(30, 11, 60, 0, 5), 9, 9, 9, 9, 0), 1, 4, false, api.OK}, {waiting(store(30, 11, 60, 0, 5), 9, 9, 9, 0, 0), 1, 3, true, api.OK}, {waiting(store(30, 10, 60, 0, 5), 9, 9, 9, 9, 9, 0), 1, 5, false, api.OK},
		// the first hour is short already, or nothing is used
		{waiting(store(30, 26, 60, 0, 5), 9, 0), 1, 1, false, api.OK}, {waiting(store(30, 30, 30, 0, 0), 9, 0), 1, 1, true, api.OK}, {waiting(store(29, 30, 30, 0, 0), 9, 0), 1, 1, false, api.OK},
	} {
		if hours, enough, e := supply.Next(x.s, 1, x.length); hours != x.hours || enough != x.enough || e != x.e {
			t.Errorf("%d: Next = %d, %v, %d, want %d, %v, %d", i, hours, enough, e, x.hours, x.enough, x.e)
		}
	}
	for i, x := range []struct {
		s               api.Supply
		carrier, length int
		hours           int
		enough          bool
		e               api.Errno
	}{
		{exampleS(), 0, 2, 2, true, api.OK}, {exampleS(), 0, 5, 0, false, api.ErrNone}, {exampleS(), 0, 4, 2, true, api.OK}, {exampleS(), 1, 5, 0, true, api.OK}, {exampleS(), 1, 7, 0, false, api.ErrNone},
		{seeing(exampleS(), sight(0, 30)), 0, 1, 0, true, api.OK}, {seeing(exampleS(), sight(0, 30)), 0, 2, 2, true, api.OK}, {seeing(exampleS(), sight(0, 10)), 0, 4, 0, true, api.OK},
	} {
		if hours, enough, e := supply.Next(x.s, x.carrier, x.length); hours != x.hours || enough != x.enough || e != x.e {
			t.Errorf("%d: Next of S = %d, %v, %d, want %d, %v, %d", i, hours, enough, e, x.hours, x.enough, x.e)
		}
	}
}

// full returns a supply that needs as many trips as there can be, and them.
func full(cost int) (api.Supply, []api.Trip) {
	s := calm(api.MaxHours, store(0, 0, 4, 4, 4), cable(1, cost), cable(1, cost), cable(1, cost), cable(1, cost))
	return s, allTrips(s, loadsOf(s))
}

// TestP6_4_Stocks: the example, no trips and as many as may be, and stocks below
// 0 and above the room.
func TestP6_4_Stocks(t *testing.T) {
	most, all := full(1)
	for i, x := range []struct {
		s     api.Supply
		trips []api.Trip
		uses  []int
		want  []int
	}{
		{exampleS(), trips(1, 2, 4), []int{5, 8, 6, 7, 5, 8}, []int{25, 17, 26, 19, 29, 21}},
		{exampleS(), nil, []int{5, 8, 6, 7, 5, 8}, []int{25, 17, 11, 4, -1, -9}}, {exampleS(), trips(0, 2, 3), []int{8, 8, 8, 8, 8, 8}, []int{22, 14, 16, 18, 10, 2}},
		// in the first and in the last hour
		{exampleS(), trips(1, 0, 5), []int{5, 5, 5, 5, 5, 5}, []int{40, 35, 30, 25, 20, 30}},
		// several in one hour; above the room
		{exampleS(), []api.Trip{{Hour: 2}, {Hour: 2, Carrier: 1}, {Hour: 3}}, []int{5, 5, 5, 5, 5, 5}, []int{25, 20, 40, 45, 40, 35}},
		{exampleS(), trips(1, 0, 1, 2, 3, 4, 5), []int{5, 5, 5, 5, 5, 5}, []int{40, 50, 60, 70, 80, 90}},
		{calm(1, store(0, 0, 0, 0, 500)), nil, []int{500}, []int{-500}}, {calm(1, store(9, 9, 9, 0, 0), cable(1000, 0)), trips(0, 0), []int{0}, []int{1009}},
		{most, all, constant(most, 4), constant(most, 0)},
		{calm(api.MaxHours, store(0, 0, 0, 500, 500)), nil, slices.Repeat([]int{500}, 48), courseDown(48, 500)},
	} {
		if stocks, e := supply.Stocks(x.s, x.trips, x.uses); !slices.Equal(stocks, x.want) || e != api.OK {
			t.Errorf("%d: Stocks = %v, %d, want %v", i, stocks, e, x.want)
		}
	}
}

// courseDown returns stocks that begin with 0 and become less in each hour.
func courseDown(hours, use int) []int {
	var stocks []int
	for hour := range hours {
		stocks = append(stocks, -(hour+1)*use)
	}
	return stocks
}

// TestP6_5_Lasts: the examples, stocks at the reserve and one below it, and trips
// for which there is just room, or just none.
func TestP6_5_Lasts(t *testing.T) {
	most, all := full(1)
	tight, short := most, most
	tight.Store.Room, short.Store.Use = 3, span(4, 5)
	two := func(s api.Store) api.Supply { return calm(2, s, cable(10, 1), cable(5, 1)) }
	for i, x := range []struct {
		s         api.Supply
		trips     []api.Trip
		sure, may int
		fits      bool
	}{
		{exampleS(), nil, 2, 4, true}, {exampleS(), trips(1, 2, 4), 6, 6, true}, {exampleS(), trips(1, 2), 4, 6, true}, {exampleS(), trips(0, 2), 3, 6, true}, {exampleS(), trips(0, 2, 3), 5, 6, true},
		// what comes after too little is left does not count
		{exampleS(), trips(1, 3, 4, 5), 2, 6, true}, {exampleS(), trips(1, 4, 5), 2, 6, true}, {exampleS(), trips(1, 5), 2, 4, true},
		// at the reserve
		{two(store(10, 4, 20, 3, 3)), nil, 2, 2, true}, {two(store(10, 5, 20, 3, 3)), nil, 1, 1, true}, {two(store(10, 7, 20, 3, 3)), nil, 1, 1, true}, {two(store(10, 8, 20, 3, 3)), nil, 0, 0, true}, {two(store(10, 10, 20, 0, 3)), nil, 0, 2, true},
		{two(store(0, 1, 20, 0, 0)), nil, 0, 0, true}, {two(store(0, 0, 20, 0, 0)), nil, 2, 2, true}, {two(store(20, 20, 20, 0, 0)), nil, 2, 2, true},
		// the loads come before anything is used: exactly the room, and one more
		{two(store(10, 0, 20, 3, 9)), trips(0, 0), 2, 2, true}, {two(store(10, 0, 19, 3, 9)), trips(0, 0), 2, 2, false}, {two(store(10, 0, 17, 3, 9)), trips(0, 1), 2, 2, true}, {two(store(10, 0, 16, 3, 9)), trips(0, 1), 2, 2, false}, {two(store(11, 0, 20, 3, 9)), trips(0, 0), 2, 2, false},
		{two(store(10, 0, 20, 0, 9)), trips(0, 1), 2, 2, true}, {two(store(10, 0, 19, 0, 9)), trips(0, 1), 2, 2, false},
		// several in one hour
		{two(store(10, 0, 25, 3, 9)), []api.Trip{{}, {Carrier: 1}}, 2, 2, true}, {two(store(10, 0, 24, 3, 9)), []api.Trip{{}, {Carrier: 1}}, 2, 2, false}, {two(store(10, 16, 25, 3, 9)), []api.Trip{{}, {Carrier: 1}}, 1, 2, true}, {two(store(10, 17, 25, 3, 9)), []api.Trip{{}, {Carrier: 1}}, 0, 2, true},
		// one hour without a carrier, and all hours with all of them
		{calm(1, store(5, 0, 5, 5, 5)), nil, 1, 1, true}, {calm(1, store(5, 0, 5, 5, 6)), nil, 0, 1, true}, {calm(1, store(5, 5, 5, 0, 0)), nil, 1, 1, true},
		{most, all, 48, 48, true}, {most, all[1:], 0, 0, true}, {most, all[:191], 47, 47, true}, {tight, all, 48, 48, false}, {short, all, 0, 48, true},
	} {
		if sure, may, fits, e := supply.Lasts(x.s, x.trips); sure != x.sure || may != x.may || fits != x.fits || e != api.OK {
			t.Errorf("%d: Lasts = %d, %d, %v, %d, want %d, %d, %v", i, sure, may, fits, e, x.sure, x.may, x.fits)
		}
	}
}

// planCase is a supply, and what its cheapest plan costs; none if it has no plan.
type planCase struct {
	s    api.Supply
	cost int
}

const none = -1

// planCases are supplies with one kind of plan, or without.
func planCases() []planCase {
	most, _ := full(api.MaxPrice)
	free, _ := full(0)
	short := most
	short.Store.Use.High = 5
	seen := exampleS()
	seen.Carriers, seen.Store = seen.Carriers[:1], store(20, 5, 60, 8, 8)
	hot := lifting(forecast([]api.Hour{warm(0, 5)}), 10, 2, 0)
	hot.Store = store(5, 5, 9, 1, 1)
	one := func(s api.Store, carriers ...api.Carrier) api.Supply { return calm(1, s, carriers...) }
	return []planCase{
		{exampleS(), 8}, {seeing(exampleS(), sight(0, 30)), 8},
		// no trips
		{calm(3, store(19, 10, 60, 0, 3), cable(5, 1)), 0}, {calm(3, store(19, 10, 60, 0, 3)), 0}, {calm(3, store(18, 10, 60, 0, 3)), none}, {calm(3, store(18, 10, 60, 0, 3), cable(1, 4)), 4},
		{calm(api.MaxHours, store(48, 0, 48, 1, 1)), 0}, {calm(api.MaxHours, store(47, 0, 48, 1, 1)), none},
		// one hour: exactly what is needed, and exactly the room
		{one(store(10, 10, 15, 5, 5), cable(5, 3)), 3}, {one(store(10, 10, 14, 5, 5), cable(5, 3)), none}, {one(store(10, 10, 15, 5, 6), cable(5, 3)), none}, {one(store(10, 10, 15, 4, 5), cable(5, 3)), 3}, {one(store(0, 10, 15, 0, 0), cable(10, 3)), 3}, {one(store(0, 10, 15, 0, 0), cable(9, 3)), none},
		// Stock, Reserve and Room
		{one(store(9, 9, 9, 0, 0)), 0}, {one(store(9, 9, 9, 0, 1), cable(1, 1)), none}, {one(store(8, 9, 9, 0, 0), cable(1, 1)), 1}, {calm(2, store(9, 8, 9, 1, 1), cable(1, 1)), 1}, {calm(2, store(9, 9, 9, 1, 1), cable(1, 1)), none}, {one(store(0, 0, 0, 0, 0), cable(1, 1)), 0}, {one(store(0, 0, 0, 0, 1), cable(1, 1)), none},
		// too little comes, or there is no room for it if nothing is used
		{calm(3, store(10, 0, 20, 5, 10), cable(10, 1)), 2}, {calm(3, store(10, 0, 20, 4, 10), cable(10, 1)), none}, {calm(3, store(10, 0, 20, 0, 10), cable(10, 1)), none}, {calm(3, store(10, 0, 20, 10, 11), cable(10, 1)), 3}, {calm(3, store(10, 0, 19, 10, 11), cable(10, 1)), none}, {calm(4, store(10, 0, 10, 10, 10), cable(10, 1)), 3}, {calm(4, store(10, 0, 10, 5, 5), cable(5, 1)), 2},
		// several in one hour; which of them is a matter of cost, and of room
		{one(store(0, 0, 10, 10, 10), cable(4, 1), cable(6, 2), cable(3, 1), cable(3, 4)), 3}, {one(store(0, 0, 9, 9, 9), cable(4, 1), cable(6, 2), cable(3, 1), cable(3, 4)), 3}, {one(store(0, 0, 9, 7, 7), cable(4, 5), cable(6, 9), cable(3, 1), cable(3, 4)), 6}, {one(store(0, 0, 16, 16, 16), cable(4, 5), cable(6, 9), cable(3, 1), cable(3, 4)), 19}, {one(store(0, 0, 17, 17, 17), cable(4, 5), cable(6, 9), cable(3, 1), cable(3, 4)), none},
		// a great load that is dear, and small ones; one that costs nothing
		{calm(3, store(0, 0, 30, 5, 5), cable(5, 4), cable(15, 11)), 11}, {calm(3, store(0, 0, 30, 5, 5), cable(5, 4), cable(15, 13)), 12}, {calm(3, store(0, 0, 14, 5, 5), cable(5, 4), cable(15, 11)), 12}, {calm(3, store(0, 0, 30, 5, 5), cable(5, 0), cable(15, 11)), 0}, {calm(3, store(0, 0, 30, 5, 6), cable(5, 0), cable(15, 11)), 11},
		// the cheap load in the beginning leaves no room for the rest
		{calm(2, store(0, 0, 11, 1, 10), cable(10, 9), cable(3, 2), cable(7, 4)), none}, {calm(2, store(0, 0, 20, 1, 10), cable(10, 9), cable(3, 2), cable(7, 4)), 12}, {calm(2, store(0, 0, 20, 0, 10), cable(10, 9), cable(11, 1)), 18},
		// it surely goes in some hours only, or the heat lets it lift nothing
		{seen, none}, {seeing(seen, sight(0, 10)), 21}, {seeing(seen, sight(0, 30)), 21}, {seeing(seen, sight(0, 45)), none}, {hot, none},
		// as many trips as there can be, each as dear as can be, and none
		{most, api.MaxTrips * api.MaxPrice}, {free, 0}, {short, none},
	}
}

// TestP6_6_Plan: the example and other supplies.
func TestP6_6_Plan(t *testing.T) {
	for i, x := range planCases() {
		list, cost, e := supply.Plan(x.s)
		if x.cost == none {
			if len(list) > 0 || cost != 0 || e != api.ErrNone {
				t.Errorf("%d: Plan = %v, %d, %d, want none", i, list, cost, e)
			}
			continue
		}
		loads := loadsOf(x.s)
		if cost != x.cost || e != api.OK || costOf(x.s, list) != cost || !areTrips(loads, list) || !isPlan(x.s, loads, list) {
			t.Errorf("%d: Plan = %v, %d, %d, want %d", i, list, cost, e, x.cost)
		}
	}
}

// TestP6_6_trips: supplies that have just one cheapest plan.
func TestP6_6_trips(t *testing.T) {
	most, all := full(7)
	gusts := calm(4, store(3, 0, 100, 1, 1), cable(9, 9), api.Carrier{Lift: 4, Cost: 1, Limits: maxWind(5)})
	gusts.Forecast = breezes(6, 5, 6, 6)
	for i, x := range []struct {
		s    api.Supply
		want []api.Trip
	}{
		{most, all}, {calm(3, store(19, 10, 60, 0, 3), cable(5, 1)), nil}, {gusts, trips(1, 1)},
		{calm(3, store(10, 0, 20, 5, 10), cable(10, 1)), trips(0, 1, 2)}, {calm(1, store(0, 0, 9, 7, 7), cable(4, 5), cable(6, 9), cable(3, 1), cable(3, 4)), []api.Trip{{Carrier: 0}, {Carrier: 2}}},
		{calm(2, store(0, 0, 20, 1, 10), cable(10, 9), cable(3, 2), cable(7, 4)), []api.Trip{{Carrier: 1}, {Carrier: 2}, {Hour: 1, Carrier: 1}, {Hour: 1, Carrier: 2}}},
	} {
		if list, _, e := supply.Plan(x.s); !slices.Equal(list, x.want) || e != api.OK {
			t.Errorf("%d: Plan = %v, %d, want %v", i, list, e, x.want)
		}
	}
}

// TestP6_7_Proof: the example and other supplies have a proof that follows the
// rules of the section Proofs.
func TestP6_7_Proof(t *testing.T) {
	for i, x := range planCases() {
		bounds, e := supply.Proof(x.s)
		if x.cost == none {
			if len(bounds) > 0 || e != api.ErrNone {
				t.Errorf("%d: Proof = %v, %d, want none", i, bounds, e)
			}
			continue
		}
		if wrong := flaw(x.s, loadsOf(x.s), bounds, x.cost); wrong != "" || e != api.OK {
			t.Errorf("%d: Proof = %v, %d: %s", i, bounds, e, wrong)
		}
	}
	for i, x := range []struct {
		s    api.Supply
		want []api.Bound
	}{
		// one that has just one proof, and one with a state from which there is no way
		{calm(1, store(1, 0, 1, 1, 1)), []api.Bound{{}, {Hour: 1}}}, {calm(1, store(0, 0, 9, 7, 7), cable(7, 3)), []api.Bound{{Cost: 3}, {Hour: 1, Brought: 7}}},
		{calm(2, store(7, 0, 14, 7, 7), cable(7, 3)), []api.Bound{{Cost: 3}, {Hour: 1, Cost: 3}, {Hour: 1, Brought: 7}, {Hour: 2, Brought: 7}, {Hour: 2, Brought: 14}}},
	} {
		if bounds, e := supply.Proof(x.s); !reflect.DeepEqual(bounds, x.want) || e != api.OK {
			t.Errorf("%d: Proof = %v, %d, want %v", i, bounds, e, x.want)
		}
	}
}

// TestP6_7_flaw: what is no proof is told from a proof.
func TestP6_7_flaw(t *testing.T) {
	s := exampleS()
	bounds, _ := supply.Proof(s)
	for i, change := range []func(b []api.Bound) []api.Bound{
		func(b []api.Bound) []api.Bound { return nil }, func(b []api.Bound) []api.Bound { return b[1:] }, func(b []api.Bound) []api.Bound { return b[:len(b)-1] },
		func(b []api.Bound) []api.Bound { b[0].Cost = 9; return b }, func(b []api.Bound) []api.Bound { b[1].Cost = 0; return b }, func(b []api.Bound) []api.Bound { b[len(b)-1].Cost = 1; return b },
		func(b []api.Bound) []api.Bound { return slices.Insert(b, 2, b[2]) }, func(b []api.Bound) []api.Bound { b[1], b[2] = b[2], b[1]; return b },
		func(b []api.Bound) []api.Bound { return append(b, api.Bound{Hour: 7}) }, func(b []api.Bound) []api.Bound { return slices.Delete(b, 5, 6) },
	} {
		if flaw(s, loadsOf(s), change(slices.Clone(bounds)), 8) == "" {
			t.Errorf("%d: a proof that is none", i)
		}
	}
}
