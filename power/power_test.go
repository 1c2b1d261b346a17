package power_test

import (
	"slices"
	"testing"

	"bivouac/api"
	"bivouac/power"
)

// TestP10_2_Yields: the example, quotients that are rounded down, a turbine that turns
// at both ends of its winds only, and scenarios that are ruled out.
func TestP10_2_Yields(t *testing.T) {
	both := changed(shining(90, exact(50)), func(p *api.Plant) {
		p.Gain, p.Stop = 3, 9
		p.Forecast = forecast([]api.Hour{{Wind: span(2, 4), Rain: span(10, 30)}}, []api.Hour{{Wind: span(8, 10), Rain: span(0, 5)}})
	})
	apart := turning(2, 10, 20, span(10, 12), span(18, 20))
	for i, x := range []struct {
		p    api.Plant
		want []api.Span
	}{
		{exampleP(), []api.Span{span(0, 45), span(40, 85), span(80, 100), span(80, 100), span(40, 90), span(0, 50)}},
		// what was seen rules out the scenario 0, or 1, or just tells the sky of an hour
		{seeing(exampleP(), sight(0, 30)), []api.Span{exact(30), span(55, 85), span(80, 100), span(80, 100), span(40, 60), span(0, 20)}},
		{seeing(exampleP(), sight(5, 60)), []api.Span{span(0, 20), span(40, 60), span(80, 100), span(80, 100), span(40, 90), exact(0)}},
		{seeing(exampleP(), sight(0, 15), sight(2, 11)), []api.Span{exact(15), span(40, 85), exact(80), span(80, 100), span(40, 90), span(0, 50)}},
		// panels
		{shining(99, exact(0)), []api.Span{exact(99)}}, {shining(99, exact(1)), []api.Span{exact(98)}}, {shining(99, exact(50)), []api.Span{exact(49)}}, {shining(99, exact(98)), []api.Span{exact(1)}}, {shining(99, exact(99)), []api.Span{exact(0)}}, {shining(99, exact(100)), []api.Span{exact(0)}},
		{shining(100, exact(99)), []api.Span{exact(1)}}, {shining(api.MaxPower, span(1, 99)), []api.Span{span(100, 9900)}}, {shining(api.MaxPower, span(0, 100)), []api.Span{span(0, api.MaxPower)}}, {shining(10, span(5, 15)), []api.Span{span(8, 9)}}, {shining(0, span(0, 100)), []api.Span{exact(0)}},
		{shining(100, span(20, 30), span(60, 70)), []api.Span{span(30, 80)}},
		// a turbine, in winds at which it begins to turn, and stops
		{turning(3, 5, 9, exact(4)), []api.Span{exact(0)}}, {turning(3, 5, 9, exact(5)), []api.Span{exact(15)}}, {turning(3, 5, 9, exact(9)), []api.Span{exact(27)}}, {turning(3, 5, 9, exact(10)), []api.Span{exact(0)}},
		{turning(3, 5, 9, span(5, 9)), []api.Span{span(15, 27)}}, {turning(3, 5, 9, span(4, 9)), []api.Span{span(0, 27)}}, {turning(3, 5, 9, span(5, 10)), []api.Span{span(0, 27)}}, {turning(3, 5, 9, span(6, 7)), []api.Span{span(18, 21)}}, {turning(3, 5, 9, span(0, 200)), []api.Span{span(0, 27)}},
		{turning(3, 5, 9, span(0, 4)), []api.Span{exact(0)}}, {turning(3, 5, 9, span(10, 12)), []api.Span{exact(0)}}, {turning(3, 5, 9, span(4, 5)), []api.Span{span(0, 15)}}, {turning(3, 5, 9, span(9, 10)), []api.Span{span(0, 27)}},
		{turning(3, 5, 5, span(4, 6)), []api.Span{span(0, 15)}}, {turning(3, 0, 0, span(0, 6)), []api.Span{exact(0)}}, {turning(0, 0, 200, span(0, 200)), []api.Span{exact(0)}}, {turning(100, 0, 200, span(0, 200)), []api.Span{span(0, 20000)}}, {turning(100, 200, 200, exact(200)), []api.Span{exact(20000)}},
		// winds between those of the scenarios cannot be
		{apart, []api.Span{span(20, 40)}}, {turning(2, 10, 20, span(0, 4), span(30, 40)), []api.Span{exact(0)}}, {turning(2, 10, 20, span(0, 4), span(30, 40), span(15, 16)), []api.Span{span(0, 32)}},
		{turning(2, 0, 15, span(3, 5), span(16, 18), span(12, 14)), []api.Span{span(0, 28)}},
		// rain and wind of the same scenario
		{both, []api.Span{span(69, 117)}},
		{still(api.MaxHours), make([]api.Span, api.MaxHours)},
	} {
		if yields, e := power.Yields(x.p); !slices.Equal(yields, x.want) || e != api.OK {
			t.Errorf("%d: Yields = %v, %d, want %v", i, yields, e, x.want)
		}
	}
}

// skies are still ones, for so many hours.
func skies(hours int) []api.Sky { return make([]api.Sky, hours) }

// TestP10_3_Levels: the example, a battery that is just full, and more than full, levels
// below the reserve and below 0, and gas that is burnt in vain.
func TestP10_3_Levels(t *testing.T) {
	stormy := exampleWeather()
	stormy[4], stormy[5] = breeze(51), breeze(50)
	wet := exampleWeather()
	wet[1].Rain = 26
	rainy := changed(exampleP(), func(p *api.Plant) {
		p.Forecast.Scenarios[0].Hours[1].Rain = span(0, 100)
	})
	for i, x := range []struct {
		p       api.Plant
		burn    []int
		weather []api.Sky
		levels  []int
		lost    int
	}{
		{exampleP(), []int{0, 0, 0, 0, 1, 1}, exampleWeather(), []int{60, 60, 100, 140, 150, 140}, 20},
		{exampleP(), []int{0, 0, 0, 0, 0, 0}, exampleWeather(), []int{60, 60, 100, 140, 120, 60}, 0},
		{exampleP(), []int{0, 0, 0, 0, 1, 1}, stormy, []int{60, 60, 100, 140, 140, 150}, 0},
		{rainy, []int{2, 0, 0, 0, 0, 0}, wet, []int{150, 139, 150, 150, 130, 70}, 10 + 29 + 40},
		// what comes in an hour is used in it before anything is lost
		{sunny(10, 10, []int{7}, []int{7}), []int{0}, skies(1), []int{10}, 0}, {sunny(10, 10, []int{8}, []int{7}), []int{0}, skies(1), []int{10}, 1}, {sunny(9, 10, []int{8}, []int{7}), []int{0}, skies(1), []int{10}, 0},
		{sunny(0, 0, []int{8, 8}, []int{7, 9}), []int{0, 0}, skies(2), []int{0, -1}, 1},
		// below 0, and up again; what was lost does not come back
		{sunny(5, 9, []int{0, 0, 20, 2, 0}, []int{6, 4, 1, 0, 9}), []int{0, 0, 0, 0, 0}, skies(5), []int{-1, -5, 9, 9, 0}, 5 + 2},
		{sunny(0, 0, []int{0}, []int{api.MaxPower}), []int{0}, skies(1), []int{-api.MaxPower}, 0},
		// gas
		{burning(20, 7, 3, 9, 5, 5, 30), []int{3, 3, 3}, skies(3), []int{16, 20, 11}, 12}, {burning(20, 0, 3, 9, 5, 5, 30), []int{3, 3, 3}, skies(3), []int{-5, -10, -40}, 0}, {burning(20, 7, 3, 9, 5, 5, 30), []int{0, 3, 0}, skies(3), []int{-5, 11, -19}, 0},
		{burning(0, api.MaxPower, api.MaxRate, api.MaxUnits, 0, 1), []int{10, 10}, skies(2), []int{0, 0}, 200000 - 1},
	} {
		if levels, lost, e := power.Levels(x.p, x.burn, x.weather); !slices.Equal(levels, x.levels) || lost != x.lost || e != api.OK {
			t.Errorf("%d: Levels = %v, %d, %d, want %v, %d", i, levels, lost, e, x.levels, x.lost)
		}
	}
}

// TestP10_4_Lasts: the examples, a reserve that is just left, or just is not, and a level
// that comes back.
func TestP10_4_Lasts(t *testing.T) {
	reserved := func(p api.Plant, reserve int) api.Plant {
		p.Battery.Reserve = reserve
		return p
	}
	full := sunny(60, 60, []int{0, 0, 90, 0}, []int{20, 20, 20, 20})
	for i, x := range []struct {
		p    api.Plant
		burn []int
		want int
	}{
		{exampleP(), []int{0, 0, 0, 0, 0, 0}, 4}, {exampleP(), []int{0, 0, 0, 0, 1, 1}, 6}, {exampleP(), []int{0, 0, 0, 0, 1, 0}, 5}, {exampleP(), []int{0, 0, 0, 0, 0, 2}, 4}, {exampleP(), []int{2, 0, 0, 0, 0, 0}, 5}, {exampleP(), []int{2, 2, 2, 2, 1, 0}, 6},
		// as the scenario 0 is impossible, or 1
		{seeing(exampleP(), sight(0, 30)), []int{0, 0, 0, 0, 0, 0}, 5}, {seeing(exampleP(), sight(5, 60)), []int{0, 0, 0, 0, 0, 0}, 4}, {seeing(exampleP(), sight(4, 30)), []int{0, 0, 0, 0, 0, 0}, 5},
		{full, []int{0, 0, 0, 0}, 4}, {reserved(full, 20), []int{0, 0, 0, 0}, 4}, {reserved(full, 21), []int{0, 0, 0, 0}, 1}, {reserved(full, 40), []int{0, 0, 0, 0}, 1}, {reserved(full, 41), []int{0, 0, 0, 0}, 0}, {reserved(full, 60), []int{0, 0, 0, 0}, 0},
		// the charge before the first hour need not be the reserve
		{reserved(sunny(0, 50, []int{50}, []int{0}), 50), []int{0}, 1}, {reserved(sunny(0, 50, []int{49}, []int{0}), 50), []int{0}, 0},
		// a level just below 0, which comes back
		{sunny(5, 9, []int{0, 9, 9}, []int{6, 0, 0}), []int{0, 0, 0}, 0}, {sunny(5, 9, []int{0, 9, 9}, []int{5, 0, 0}), []int{0, 0, 0}, 3},
		// gas that is lost does not help
		{burning(10, 10, 2, 4, 0, 20), []int{2, 0}, 1}, {burning(10, 10, 2, 4, 0, 20), []int{1, 1}, 2}, {burning(10, 10, 2, 4, 0, 20), []int{0, 2}, 2}, {burning(10, 10, 2, 4, 20, 20), []int{2, 1}, 1},
		{still(api.MaxHours), make([]int, api.MaxHours), api.MaxHours},
	} {
		if hours, e := power.Lasts(x.p, x.burn); hours != x.want || e != api.OK {
			t.Errorf("%d: Lasts = %d, %d, want %d", i, hours, e, x.want)
		}
	}
}

// TestP10_5_Worst: weathers in which it lasts no longer; if one scenario alone is the
// worst, and if a strong wind is, a weak one or much rain.
func TestP10_5_Worst(t *testing.T) {
	weaker := changed(exampleP(), func(p *api.Plant) { p.Stop = 45 })
	for i, x := range []struct {
		p    api.Plant
		burn []int
	}{
		{exampleP(), []int{0, 0, 0, 0, 0, 0}}, {exampleP(), []int{0, 0, 0, 0, 1, 0}}, {weaker, []int{0, 0, 0, 0, 0, 0}}, {seeing(exampleP(), sight(0, 30)), []int{0, 0, 0, 0, 0, 0}}, {seeing(exampleP(), sight(0, 15), sight(4, 30)), []int{0, 0, 0, 0, 0, 0}},
		{changed(turning(2, 5, 9, span(4, 7), span(6, 8)), func(p *api.Plant) { p.Needs = []int{12} }), []int{0}}, {changed(turning(2, 5, 9, span(6, 7), span(8, 10)), func(p *api.Plant) { p.Needs = []int{12} }), []int{0}}, {changed(turning(2, 5, 9, span(7, 8), span(5, 8)), func(p *api.Plant) { p.Needs = []int{12} }), []int{0}},
		{changed(shining(100, span(10, 20), span(3, 21)), func(p *api.Plant) { p.Needs = []int{80} }), []int{0}}, {changed(shining(100, span(0, 100)), func(p *api.Plant) { p.Needs = []int{1} }), []int{0}},
	} {
		want, e := power.Lasts(x.p, x.burn)
		if want == hoursOf(x.p) || e != api.OK {
			t.Fatalf("%d: Lasts = %d, %d", i, want, e)
		}
		weather, e := power.Worst(x.p, x.burn)
		if e != api.OK || !isWeather(x.p, weather) {
			t.Fatalf("%d: Worst = %v, %d", i, weather, e)
		}
		if levels, _ := course(x.p, x.burn, yieldsOf(x.p, weather)); lastsIn(x.p, levels) != want {
			t.Errorf("%d: Worst = %v, with the levels %v, want %d hours", i, weather, levels, want)
		}
	}
	for i, x := range []struct {
		p    api.Plant
		burn []int
	}{
		{exampleP(), []int{0, 0, 0, 0, 1, 1}}, {changed(turning(2, 5, 9, span(6, 7), span(7, 9)), func(p *api.Plant) { p.Needs = []int{12} }), []int{0}}, {changed(shining(100, span(10, 20)), func(p *api.Plant) { p.Needs = []int{80} }), []int{0}}, {still(api.MaxHours), make([]int, api.MaxHours)},
	} {
		if weather, e := power.Worst(x.p, x.burn); len(weather) > 0 || e != api.ErrNone {
			t.Errorf("%d: Worst = %v, %d, want ErrNone", i, weather, e)
		}
	}
}

// TestP10_6_Plan: the example, gas that is burnt as late as possible: in the hour that
// needs it, or before it if the rate is too low; also before others if the battery then
// is full; and plants without a plan.
func TestP10_6_Plan(t *testing.T) {
	for i, x := range []struct {
		p     api.Plant
		burn  []int
		units int
	}{
		{exampleP(), []int{0, 0, 0, 0, 1, 1}, 2}, {withUnits(exampleP(), 2), []int{0, 0, 0, 0, 1, 1}, 2}, {seeing(exampleP(), sight(0, 30)), []int{0, 0, 0, 0, 0, 2}, 2}, {seeing(exampleP(), sight(0, 20), sight(4, 30), sight(5, 50)), []int{0, 0, 0, 0, 0, 0}, 0}, {needing(exampleP(), 20), []int{0, 1, 0, 0, 2, 2}, 5},
		{still(3), []int{0, 0, 0}, 0},
		// just enough, and one more
		{burning(0, 10, 5, 50, 20, 10), []int{2, 1}, 3}, {burning(0, 10, 5, 50, 21, 10), []int{3, 1}, 4}, {burning(0, 10, 3, 3, 20, 10), []int{2, 1}, 3}, {burning(0, 1, 10, 10, 10), []int{10}, 10},
		// some of a unit is left for later
		{burning(20, 10, 5, 50, 21, 9), []int{3, 0}, 3}, {burning(20, 10, 5, 50, 21, 10), []int{3, 1}, 4}, {burning(5, 10, 5, 50, 21, 9), []int{3, 1}, 4},
		// before the hour that needs it
		{burning(20, 10, 2, 50, 0, 0, 40), []int{0, 2, 2}, 4}, {burning(20, 10, 2, 50, 0, 5, 35), []int{0, 2, 2}, 4}, {burning(20, 10, 2, 50, 0, 10, 40), []int{1, 2, 2}, 5}, {burning(30, 10, 2, 50, 0, 0, 50), []int{1, 2, 2}, 5}, {burning(90, 10, 1, 50, 0, 0, 0, 30), []int{0, 1, 1, 1}, 3},
		// what is burnt before is lost in part, so that more is burnt
		{burning(15, 10, 2, 50, 0, 0, 35), []int{0, 2, 2}, 4}, {burning(25, 10, 2, 50, 0, 0, 45), []int{1, 2, 2}, 5}, {changed(burning(20, 10, 2, 50, 0, 30), func(p *api.Plant) { p.Sun = []int{15, 0} }), []int{0, 2}, 2}, {changed(burning(20, 10, 1, 50, 0, 30), func(p *api.Plant) { p.Sun = []int{15, 0} }), []int{1, 1}, 2},
		// each scenario is short in another hour
		{changed(burning(5, 10, 1, 50, 10, 10), func(p *api.Plant) {
			p.Gain, p.Stop = 1, 10
			p.Forecast = forecast([]api.Hour{{}, {Wind: exact(10)}}, []api.Hour{{Wind: exact(10)}, {}})
		}), []int{1, 1}, 2},
		{burning(100000, 10000, 10, 200, slices.Repeat([]int{10000}, 48)...), slices.Repeat([]int{1}, 48), 48}, {burning(100000, 10000, 5, 200, append(make([]int, 47), 10000)...), append(make([]int, 47), 1), 1},
	} {
		burn, units, e := power.Plan(x.p)
		if !slices.Equal(burn, x.burn) || units != x.units || e != api.OK {
			t.Errorf("%d: Plan = %v, %d, %d, want %v, %d", i, burn, units, e, x.burn, x.units)
		}
	}
	for i, p := range []api.Plant{
		withUnits(exampleP(), 1), withUnits(exampleP(), 0), changed(exampleP(), func(p *api.Plant) { p.Rate = 0 }), changed(exampleP(), func(p *api.Plant) { p.Gas = 0 }), needing(exampleP(), 59), changed(exampleP(), func(p *api.Plant) { p.Battery.Reserve = 150 }),
		burning(0, 10, 5, 2, 20, 10), burning(0, 10, 1, 50, 11), burning(0, 10, 1, 50, 0, 11), burning(20, 10, 2, 50, 0, 41), burning(20, 10, 2, 3, 0, 40), burning(20, 10, 2, 50, 10, 40, 20), burning(0, 0, 10, 200, 1), burning(0, 10000, 0, 200, 1), burning(0, 10000, 10, 0, 1),
	} {
		if burn, units, e := power.Plan(p); len(burn) > 0 || units != 0 || e != api.ErrNone {
			t.Errorf("%d: Plan = %v, %d, %d, want ErrNone", i, burn, units, e)
		}
	}
}

// TestP10_7_Spare: the example, nothing more, as much as is asked for at most, and needs
// that are more than a plant can have.
func TestP10_7_Spare(t *testing.T) {
	most := burning(0, api.MaxPower, 2, 96, slices.Repeat([]int{api.MaxPower}, 48)...)
	for i, x := range []struct {
		p    api.Plant
		want int
		e    api.Errno
	}{
		{exampleP(), 58, api.OK}, {withUnits(exampleP(), 2), 0, api.OK}, {withUnits(exampleP(), 1), 0, api.ErrNone}, {withUnits(exampleP(), 3), 8, api.OK},
		{sunny(7, 9, []int{5}, []int{3}), 9, api.OK}, {sunny(7, 9, []int{5, 0}, []int{3, 4}), 2, api.OK}, {sunny(9, 9, []int{0, 0, 0}, []int{0, 0, 0}), 3, api.OK}, {sunny(9, 9, []int{0, 0}, []int{0, 9}), 0, api.OK}, {sunny(9, 9, []int{0, 0}, []int{0, 10}), 0, api.ErrNone},
		{sunny(0, 0, []int{api.MaxPower}, []int{0}), api.MaxPower, api.OK}, {sunny(0, 0, []int{api.MaxPower}, []int{1}), api.MaxPower - 1, api.OK}, {sunny(1, 1, []int{api.MaxPower}, []int{0}), api.MaxPower, api.OK}, {sunny(1, 1, []int{api.MaxPower}, []int{1}), api.MaxPower, api.OK}, {sunny(1, 1, []int{api.MaxPower}, []int{2}), api.MaxPower - 1, api.OK},
		// two units in each hour, or else one
		{most, api.MaxPower, api.OK}, {withUnits(most, 95), 0, api.OK}, {withUnits(most, 48), 0, api.OK}, {withUnits(most, 47), 0, api.ErrNone}, {burning(0, 1, 1, 1, 0), 1, api.OK}, {burning(0, 1, 1, 1, 2), 0, api.ErrNone},
	} {
		if spare, e := power.Spare(x.p); spare != x.want || e != x.e {
			t.Errorf("%d: Spare = %d, %d, want %d, %d", i, spare, e, x.want, x.e)
		}
	}
}

// TestP10_8_Least: the examples, no charge, the whole capacity, and more than that; the
// charge that the plant has does not matter.
func TestP10_8_Least(t *testing.T) {
	for i, x := range []struct {
		p    api.Plant
		want int
		e    api.Errno
	}{
		{exampleP(), 0, api.OK}, {withUnits(exampleP(), 1), 150, api.OK}, {withUnits(exampleP(), 0), 0, api.ErrNone}, {withCharge(exampleP(), 0), 0, api.OK}, {withCharge(withUnits(exampleP(), 1), 0), 150, api.OK}, {withCharge(exampleP(), 150), 0, api.OK}, {withUnits(exampleP(), 4), 0, api.OK}, {withUnits(exampleP(), 3), 50, api.OK},
		{sunny(0, 50, []int{3}, []int{13}), 10, api.OK}, {sunny(0, 10, []int{3}, []int{13}), 10, api.OK}, {sunny(9, 9, []int{3}, []int{13}), 0, api.ErrNone}, {sunny(50, 50, []int{3, 20, 1}, []int{13, 5, 20}), 14, api.OK},
		{changed(sunny(0, 50, []int{3}, []int{13}), func(p *api.Plant) { p.Battery.Reserve = 7 }), 17, api.OK}, {changed(sunny(0, 50, []int{3}, []int{13}), func(p *api.Plant) { p.Battery.Reserve = 40 }), 50, api.OK}, {changed(sunny(0, 50, []int{3}, []int{13}), func(p *api.Plant) { p.Battery.Reserve = 41 }), 0, api.ErrNone},
		{sunny(0, 0, []int{3}, []int{3}), 0, api.OK}, {sunny(0, 0, []int{3}, []int{4}), 0, api.ErrNone}, {sunny(0, api.MaxBattery, slices.Repeat([]int{0}, 10), slices.Repeat([]int{api.MaxPower}, 10)), api.MaxBattery, api.OK}, {sunny(0, api.MaxBattery, slices.Repeat([]int{0}, 11), slices.Repeat([]int{api.MaxPower}, 11)), 0, api.ErrNone}, {still(1), 0, api.OK},
		{burning(40, 10, 1, 1, 15, 15), 20, api.OK}, {burning(40, 10, 1, 2, 15, 15), 10, api.OK}, {burning(19, 10, 1, 1, 15, 15), 0, api.ErrNone},
	} {
		if least, e := power.Least(x.p); least != x.want || e != x.e {
			t.Errorf("%d: Least = %d, %d, want %d, %d", i, least, e, x.want, x.e)
		}
	}
}
