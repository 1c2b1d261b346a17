package weather_test

import (
	"slices"
	"testing"

	"bivouac/api"
	"bivouac/weather"
)

// sixScenarios returns the example's forecast with its scenarios three times, as
// many as there may be.
func sixScenarios() api.Forecast {
	f := exampleF()
	f.Scenarios = slices.Repeat(f.Scenarios, 3)
	return f
}

// TestP5_2_Possible: the example, observations that leave all, several, one or
// no scenario, and as many of them as may be.
func TestP5_2_Possible(t *testing.T) {
	steps := forecast(repeat(48, windy(0, 10)), repeat(48, windy(5, 15)), repeat(48, windy(10, 20)))
	var twenty []api.Sight
	for hour := range api.MaxSights {
		twenty = append(twenty, sight(47-2*hour, 10))
	}
	for i, x := range []struct {
		f    api.Forecast
		seen []api.Sight
		want []int
	}{
		{exampleF(), nil, []int{0, 1}}, {exampleF(), exampleO(), []int{1}},
		{exampleF(), []api.Sight{sight(0, 10)}, []int{0}}, {exampleF(), []api.Sight{sight(0, 20)}, []int{0, 1}},
		{exampleF(), []api.Sight{sight(0, 9)}, nil}, {exampleF(), []api.Sight{sight(0, 46)}, nil},
		// the ends of the spans, and just beyond them
		{exampleF(), []api.Sight{sight(5, 60)}, []int{0}}, {exampleF(), []api.Sight{sight(5, 61)}, nil},
		{exampleF(), []api.Sight{sight(5, 30)}, []int{0}}, {exampleF(), []api.Sight{sight(5, 29)}, nil},
		{exampleF(), []api.Sight{{Hour: 2, Sky: api.Sky{Wind: 15, Temp: 0}}}, []int{0, 1}}, {exampleF(), []api.Sight{{Hour: 2, Sky: api.Sky{Wind: 15, Temp: -1}}}, nil},
		{exampleF(), []api.Sight{{Hour: 2, Sky: api.Sky{Wind: 15, Temp: 10}}}, []int{0, 1}}, {exampleF(), []api.Sight{{Hour: 2, Sky: api.Sky{Wind: 15, Temp: 11}}}, nil},
		{exampleF(), []api.Sight{{Hour: 2, Sky: api.Sky{Wind: 15, Rain: 1, Temp: 5}}}, nil},
		// each observation counts, in any order
		{exampleF(), []api.Sight{sight(5, 60), sight(0, 15)}, []int{0}}, {exampleF(), []api.Sight{sight(0, 15), sight(5, 60)}, []int{0}},
		{exampleF(), []api.Sight{sight(0, 30), sight(5, 60)}, nil}, {exampleF(), []api.Sight{sight(0, 15), sight(1, 15)}, []int{0, 1}},
		{sixScenarios(), nil, []int{0, 1, 2, 3, 4, 5}}, {sixScenarios(), exampleO(), []int{1, 3, 5}}, {sixScenarios(), []api.Sight{sight(0, 10)}, []int{0, 2, 4}},
		{steps, nil, []int{0, 1, 2}}, {steps, []api.Sight{sight(47, 12)}, []int{1, 2}}, {steps, []api.Sight{sight(47, 7)}, []int{0, 1}},
		{steps, []api.Sight{sight(47, 7), sight(0, 12)}, []int{1}}, {steps, []api.Sight{sight(47, 3), sight(0, 12)}, nil}, {steps, twenty, []int{0, 1, 2}},
		{steps, append(twenty[:19:19], sight(0, 20)), []int{2}},
		{forecast(winds(7)), nil, []int{0}}, {forecast(winds(7)), []api.Sight{sight(0, 7)}, []int{0}}, {forecast(winds(7)), []api.Sight{sight(0, 8)}, nil},
	} {
		if l, e := weather.Possible(x.f, x.seen); !slices.Equal(l, x.want) || (e == api.OK) != (len(x.want) > 0) || e != api.OK && e != api.ErrNone {
			t.Errorf("%d: Possible = %v, %d, want %v", i, l, e, x.want)
		}
	}
}

// TestP5_3_Range: the example, hours with an observation and without, and
// scenarios of which some are not possible.
func TestP5_3_Range(t *testing.T) {
	apart := forecast(
		[]api.Hour{{Wind: span(50, 60), Rain: span(0, 100), Temp: span(-50, -40)}},
		[]api.Hour{{Wind: span(0, 10), Rain: span(30, 30), Temp: span(40, 50)}},
		[]api.Hour{{Wind: span(20, 200), Rain: span(5, 6), Temp: span(0, 0)}},
	)
	for i, x := range []struct {
		f    api.Forecast
		seen []api.Sight
		hour int
		want api.Hour
	}{
		{exampleF(), nil, 0, windy(10, 45)}, {exampleF(), nil, 2, windy(10, 20)}, {exampleF(), nil, 5, windy(10, 60)},
		// in the hour that is asked, and in another one
		{exampleF(), exampleO(), 0, api.Hour{Wind: span(30, 30), Temp: span(5, 5)}}, {exampleF(), exampleO(), 1, windy(15, 45)}, {exampleF(), exampleO(), 5, windy(10, 20)},
		{exampleF(), []api.Sight{sight(0, 15)}, 0, api.Hour{Wind: span(15, 15), Temp: span(5, 5)}}, {exampleF(), []api.Sight{sight(0, 15)}, 1, windy(10, 45)},
		{apart, nil, 0, api.Hour{Wind: span(0, 200), Rain: span(0, 100), Temp: span(-50, 50)}},
		{apart, []api.Sight{{Sky: api.Sky{Wind: 20, Rain: 5}}}, 0, api.Hour{Wind: span(20, 20), Rain: span(5, 5)}},
		{forecast(repeat(api.MaxHours, windy(3, 4))), nil, 47, windy(3, 4)}, {forecast(winds(7)), nil, 0, windy(7, 7)},
		{sixScenarios(), exampleO(), 4, windy(10, 20)},
	} {
		if h, e := weather.Range(x.f, x.seen, x.hour); h != x.want || e != api.OK {
			t.Errorf("%d: Range of %d = %v, %d, want %v", i, x.hour, h, e, x.want)
		}
	}
}

// mixed returns a forecast of one scenario, by the wind, rain and temperature of
// its hours.
func mixed(spans ...[3]api.Span) api.Forecast {
	var hours []api.Hour
	for _, s := range spans {
		hours = append(hours, api.Hour{Wind: s[0], Rain: s[1], Temp: s[2]})
	}
	return forecast(hours)
}

// TestP5_4_Keeps: the examples, and limits exactly at the ends of spans and of
// what is allowed.
func TestP5_4_Keeps(t *testing.T) {
	wild := mixed([3]api.Span{span(0, 200), span(0, 100), span(-50, 50)}, [3]api.Span{span(200, 200), span(100, 100), span(50, 50)}, [3]api.Span{span(0, 0), span(0, 0), span(-50, -50)})
	one := mixed([3]api.Span{span(10, 20), span(3, 5), span(-4, 4)})
	hours := func(h ...api.Span) []api.Span { return h }
	for i, x := range []struct {
		f         api.Forecast
		seen      []api.Sight
		l         api.Limits
		sure, may []api.Span
	}{
		{exampleF(), nil, exampleL(), hours(span(2, 3)), hours(span(0, 5))},
		{exampleF(), exampleO(), exampleL(), hours(span(0, 0), span(2, 5)), hours(span(0, 5))},
		{exampleF(), []api.Sight{sight(0, 45)}, exampleL(), hours(span(2, 5)), hours(span(1, 5))},
		{exampleF(), []api.Sight{sight(1, 45)}, exampleL(), hours(span(2, 5)), hours(span(0, 0), span(2, 5))},
		// an hour may keep the limits in one scenario and surely in no other
		{exampleF(), nil, maxWind(29), hours(span(2, 3)), hours(span(0, 5))}, {exampleF(), nil, maxWind(9), nil, nil}, {exampleF(), nil, maxWind(10), nil, hours(span(0, 5))},
		{exampleF(), nil, maxWind(19), nil, hours(span(0, 5))}, {exampleF(), nil, maxWind(20), hours(span(2, 3)), hours(span(0, 5))},
		{exampleF(), nil, maxWind(44), hours(span(2, 3)), hours(span(0, 5))}, {exampleF(), nil, maxWind(45), hours(span(0, 3)), hours(span(0, 5))},
		{exampleF(), nil, maxWind(59), hours(span(0, 3)), hours(span(0, 5))}, {exampleF(), nil, maxWind(60), hours(span(0, 5)), hours(span(0, 5))},
		{forecast(winds(5, 9, 5, 5, 9, 9, 5)), nil, maxWind(5), hours(span(0, 0), span(2, 3), span(6, 6)), hours(span(0, 0), span(2, 3), span(6, 6))},
		{forecast(winds(9, 9)), nil, maxWind(5), nil, nil}, {forecast(winds(5)), nil, maxWind(5), hours(span(0, 0)), hours(span(0, 0))},
		// exactly at the ends of the spans
		{one, nil, api.Limits{Wind: 20, Rain: 5, Temp: span(-4, 4)}, hours(span(0, 0)), hours(span(0, 0))},
		{one, nil, api.Limits{Wind: 19, Rain: 5, Temp: span(-4, 4)}, nil, hours(span(0, 0))}, {one, nil, api.Limits{Wind: 20, Rain: 4, Temp: span(-4, 4)}, nil, hours(span(0, 0))},
		{one, nil, api.Limits{Wind: 20, Rain: 5, Temp: span(-3, 4)}, nil, hours(span(0, 0))}, {one, nil, api.Limits{Wind: 20, Rain: 5, Temp: span(-4, 3)}, nil, hours(span(0, 0))},
		{one, nil, api.Limits{Wind: 10, Rain: 3, Temp: span(4, 9)}, nil, hours(span(0, 0))}, {one, nil, api.Limits{Wind: 10, Rain: 3, Temp: span(-9, -4)}, nil, hours(span(0, 0))},
		{one, nil, api.Limits{Wind: 10, Rain: 3, Temp: span(0, 0)}, nil, hours(span(0, 0))}, {one, nil, api.Limits{Wind: 9, Rain: 5, Temp: span(-4, 4)}, nil, nil},
		{one, nil, api.Limits{Wind: 20, Rain: 2, Temp: span(-4, 4)}, nil, nil}, {one, nil, api.Limits{Wind: 20, Rain: 5, Temp: span(5, 9)}, nil, nil}, {one, nil, api.Limits{Wind: 20, Rain: 5, Temp: span(-9, -5)}, nil, nil},
		// at the ends of what is allowed
		{wild, nil, widest(), hours(span(0, 2)), hours(span(0, 2))}, {wild, nil, api.Limits{Temp: span(-50, -50)}, hours(span(2, 2)), hours(span(0, 0), span(2, 2))},
		{wild, nil, api.Limits{Wind: 200, Rain: 100, Temp: span(50, 50)}, hours(span(1, 1)), hours(span(0, 1))},
		{forecast(repeat(api.MaxHours, windy(0, 5)), repeat(api.MaxHours, windy(4, 6))), nil, maxWind(5), nil, hours(span(0, 47))},
		{forecast(repeat(api.MaxHours, windy(0, 5))), nil, maxWind(5), hours(span(0, 47)), hours(span(0, 47))},
		{sixScenarios(), nil, exampleL(), hours(span(2, 3)), hours(span(0, 5))},
	} {
		if sure, may, e := weather.Keeps(x.f, x.seen, x.l); !slices.Equal(sure, x.sure) || !slices.Equal(may, x.may) || e != api.OK {
			t.Errorf("%d: Keeps = %v, %v, %d, want %v, %v", i, sure, may, e, x.sure, x.may)
		}
	}
}

// TestP5_5_Window: the examples, windows of the length 1, as long as the forecast
// and longer, and those that only may come.
func TestP5_5_Window(t *testing.T) {
	long := forecast(repeat(api.MaxHours, windy(0, 5)), repeat(api.MaxHours, windy(0, 6)))
	// each scenario has its windows at other hours
	three := forecast(winds(9, 9, 0, 0, 9, 9), winds(0, 9, 9, 9, 0, 0), winds(9, 0, 0, 9, 9, 0))
	for i, x := range []struct {
		f                   api.Forecast
		seen                []api.Sight
		l                   api.Limits
		length, first, last int
	}{
		{exampleF(), nil, exampleL(), 2, 0, 2}, {exampleF(), nil, exampleL(), 4, 0, 2}, {exampleF(), nil, exampleL(), 5, 0, -1},
		{exampleF(), nil, exampleL(), 1, 0, 2}, {exampleF(), nil, exampleL(), 6, 0, -1}, {exampleF(), nil, exampleL(), 7, -1, -1}, {exampleF(), nil, exampleL(), api.MaxHours, -1, -1},
		{exampleF(), exampleO(), exampleL(), 1, 0, 0}, {exampleF(), exampleO(), exampleL(), 2, 0, 2}, {exampleF(), []api.Sight{sight(0, 45)}, exampleL(), 2, 1, 2},
		{exampleF(), []api.Sight{sight(1, 45)}, exampleL(), 2, 2, 2}, {exampleF(), []api.Sight{sight(0, 10)}, exampleL(), 4, 0, 0}, {exampleF(), []api.Sight{sight(0, 10)}, exampleL(), 5, 0, -1},
		{exampleF(), nil, maxWind(9), 1, -1, -1}, {exampleF(), nil, maxWind(10), 1, 0, -1}, {exampleF(), nil, maxWind(60), 6, 0, 0}, {exampleF(), nil, maxWind(59), 6, 0, -1},
		{exampleF(), nil, maxWind(29), 5, 0, -1}, {exampleF(), nil, maxWind(29), 4, 0, 2},
		// all hours of a window must keep the limits in the same scenario
		{three, nil, maxWind(0), 1, 0, 2}, {three, nil, maxWind(0), 2, 1, 4}, {three, nil, maxWind(0), 3, -1, -1}, {three, nil, maxWind(9), 6, 0, 0}, {three, []api.Sight{sight(5, 0)}, maxWind(0), 2, 1, 4},
		{three, []api.Sight{sight(5, 9)}, maxWind(0), 2, 2, 2}, {three, []api.Sight{sight(1, 0)}, maxWind(0), 2, 1, 1},
		{long, nil, maxWind(6), api.MaxHours, 0, 0}, {long, nil, maxWind(5), api.MaxHours, 0, -1}, {long, nil, maxWind(5), 1, 0, -1},
		{long, []api.Sight{sight(46, 3), sight(47, 3)}, maxWind(5), 2, 0, 46}, {long, []api.Sight{sight(46, 3), sight(47, 3)}, maxWind(5), 1, 0, 46}, {long, []api.Sight{sight(46, 3), sight(47, 3)}, maxWind(5), 3, 0, -1},
		{forecast(winds(7)), nil, maxWind(7), 1, 0, 0}, {forecast(winds(7)), nil, maxWind(6), 1, -1, -1}, {forecast(winds(7)), nil, maxWind(7), 2, -1, -1},
		{forecast(winds(9, 9, 9, 0)), nil, maxWind(0), 1, 3, 3}, {forecast(winds(9, 9, 9, 0)), nil, maxWind(0), 2, -1, -1}, {forecast(winds(9, 0, 9, 0, 0, 9)), nil, maxWind(0), 2, 3, 3},
	} {
		if first, last, e := weather.Window(x.f, x.seen, x.l, x.length); first != x.first || last != x.last || e != api.OK {
			t.Errorf("%d: Window = %d, %d, %d, want %d, %d", i, first, last, e, x.first, x.last)
		}
	}
}

// TestP5_6_Gap: the examples, no gap, one as long as the forecast, and those at
// its beginning, in its middle and at its end.
func TestP5_6_Gap(t *testing.T) {
	long := forecast(repeat(api.MaxHours, windy(0, 5)))
	for i, x := range []struct {
		f         api.Forecast
		seen      []api.Sight
		l         api.Limits
		length, g int
	}{
		{exampleF(), nil, exampleL(), 2, 3}, {exampleF(), nil, exampleL(), 3, 4},
		{exampleF(), nil, exampleL(), 1, 2}, {exampleF(), nil, exampleL(), 4, 5}, {exampleF(), nil, exampleL(), 5, 6}, {exampleF(), nil, exampleL(), 6, 6}, {exampleF(), nil, exampleL(), api.MaxHours, 6},
		{exampleF(), exampleO(), exampleL(), 1, 1}, {exampleF(), exampleO(), exampleL(), 2, 3}, {exampleF(), []api.Sight{sight(5, 30)}, exampleL(), 1, 1}, {exampleF(), []api.Sight{sight(4, 35), sight(5, 40)}, exampleL(), 1, 0},
		// no gap of the length 1 if all hours surely keep the limits
		{exampleF(), nil, maxWind(60), 1, 0}, {exampleF(), nil, maxWind(60), 2, 1}, {exampleF(), nil, maxWind(60), 6, 5}, {exampleF(), nil, maxWind(59), 1, 2}, {exampleF(), nil, maxWind(9), 1, 6},
		{forecast(winds(7)), nil, maxWind(7), 1, 0}, {forecast(winds(7)), nil, maxWind(6), 1, 1}, {forecast(winds(7)), nil, maxWind(7), 2, 1},
		// a window may be cut by the ends of the gap
		{forecast(winds(0, 0, 9, 0, 9, 0, 0)), nil, maxWind(0), 2, 5}, {forecast(winds(0, 0, 9, 0, 0)), nil, maxWind(0), 2, 3}, {forecast(winds(0, 0, 0, 9, 0, 0, 0)), nil, maxWind(0), 3, 5},
		{forecast(winds(9, 9, 9, 0)), nil, maxWind(0), 1, 3}, {forecast(winds(0, 9, 9, 9)), nil, maxWind(0), 1, 3}, {forecast(winds(9, 0, 9, 9, 0, 9)), nil, maxWind(0), 1, 2},
		{forecast(winds(0, 0, 9), winds(0, 9, 9)), nil, maxWind(0), 1, 2}, {forecast(winds(0, 9, 0), winds(9, 0, 9)), nil, maxWind(0), 1, 1},
		{long, nil, maxWind(5), 1, 0}, {long, nil, maxWind(5), api.MaxHours, 47}, {long, nil, maxWind(4), 1, 48}, {long, []api.Sight{sight(24, 4)}, maxWind(4), 1, 24}, {long, []api.Sight{sight(47, 4)}, maxWind(4), 1, 47},
	} {
		if g, e := weather.Gap(x.f, x.seen, x.l, x.length); g != x.g || e != api.OK {
			t.Errorf("%d: Gap = %d, %d, want %d", i, g, e, x.g)
		}
	}
}

// TestP5_7_Open: the example, paths without rules, several rules for one path,
// and After 0, greater than the hour and as great as may be.
func TestP5_7_Open(t *testing.T) {
	rule := func(path, after int, l api.Limits) api.Rule { return api.Rule{Path: path, After: after, Limits: l} }
	gusts := forecast(winds(0, 0, 9, 0, 0, 0, 9, 0))
	// in this hour it can be 0 or 1 degree
	chill := mixed([3]api.Span{{}, {}, span(0, 1)})
	hours := func(h ...api.Span) []api.Span { return h }
	for i, x := range []struct {
		f         api.Forecast
		seen      []api.Sight
		rules     []api.Rule
		path      int
		sure, may []api.Span
	}{
		{exampleF(), nil, exampleR(), 1, hours(span(3, 3)), hours(span(0, 5))}, {exampleF(), nil, exampleR(), 0, hours(span(0, 5)), hours(span(0, 5))}, {exampleF(), nil, nil, 1, hours(span(0, 5)), hours(span(0, 5))},
		{exampleF(), exampleO(), exampleR(), 1, hours(span(0, 0), span(3, 5)), hours(span(0, 5))}, {exampleF(), []api.Sight{sight(0, 45)}, exampleR(), 1, hours(span(3, 5)), hours(span(2, 5))},
		// After
		{gusts, nil, []api.Rule{rule(0, 0, maxWind(8))}, 0, hours(span(0, 1), span(3, 5), span(7, 7)), hours(span(0, 1), span(3, 5), span(7, 7))},
		{gusts, nil, []api.Rule{rule(0, 1, maxWind(8))}, 0, hours(span(0, 1), span(4, 5)), hours(span(0, 1), span(4, 5))},
		{gusts, nil, []api.Rule{rule(0, 2, maxWind(8))}, 0, hours(span(0, 1), span(5, 5)), hours(span(0, 1), span(5, 5))},
		{gusts, nil, []api.Rule{rule(0, 3, maxWind(8))}, 0, hours(span(0, 1)), hours(span(0, 1))}, {gusts, nil, []api.Rule{rule(0, api.MaxHours, maxWind(8))}, 0, hours(span(0, 1)), hours(span(0, 1))},
		{gusts, nil, []api.Rule{rule(0, api.MaxHours, maxWind(9))}, 0, hours(span(0, 7)), hours(span(0, 7))}, {forecast(append(winds(9), winds(make([]int, 47)...)...)), nil, []api.Rule{rule(0, api.MaxHours, maxWind(8))}, 0, nil, nil},
		{forecast(append(winds(9), winds(make([]int, 47)...)...)), nil, []api.Rule{rule(0, 46, maxWind(8))}, 0, hours(span(47, 47)), hours(span(47, 47))},
		// several rules for one path, and those for others
		{gusts, nil, []api.Rule{rule(0, 1, maxWind(8)), rule(0, 0, maxWind(9))}, 0, hours(span(0, 1), span(4, 5)), hours(span(0, 1), span(4, 5))},
		{gusts, nil, []api.Rule{rule(0, 0, maxWind(8)), rule(1, 5, maxWind(8)), rule(0, 0, temps(20, 30))}, 0, nil, nil}, {gusts, nil, []api.Rule{rule(0, 0, maxWind(8)), rule(1, 5, maxWind(8)), rule(0, 0, temps(20, 30))}, 1, hours(span(0, 1)), hours(span(0, 1))},
		{gusts, nil, slices.Repeat([]api.Rule{rule(2, 2, maxWind(8))}, api.MaxRules), 2, hours(span(0, 1), span(5, 5)), hours(span(0, 1), span(5, 5))},
		// all rules must be kept by one sky: in no weather is it as warm and as cold
		{chill, nil, []api.Rule{rule(0, 0, temps(0, 0))}, 0, nil, hours(span(0, 0))}, {chill, nil, []api.Rule{rule(0, 0, temps(0, 0)), rule(0, 0, temps(1, 1))}, 0, nil, nil},
		{chill, nil, []api.Rule{rule(0, 0, temps(-5, 1)), rule(0, 0, temps(1, 5))}, 0, nil, hours(span(0, 0))}, {chill, nil, []api.Rule{rule(0, 0, temps(-5, 1)), rule(0, 0, temps(0, 5))}, 0, hours(span(0, 0)), hours(span(0, 0))},
		{mixed([3]api.Span{{}, {}, span(0, 1)}, [3]api.Span{{}, {}, span(1, 1)}), nil, []api.Rule{rule(0, 1, temps(0, 1)), rule(0, 0, temps(1, 1))}, 0, hours(span(1, 1)), hours(span(0, 1))},
		{mixed([3]api.Span{{}, {}, span(0, 1)}, [3]api.Span{{}, {}, span(1, 1)}), nil, []api.Rule{rule(0, 1, temps(0, 1)), rule(0, 0, temps(0, 0))}, 0, nil, hours(span(0, 0))},
		// by one scenario: each may keep one of the rules, none may keep both
		{forecast(winds(0, 9), winds(9, 0)), nil, []api.Rule{rule(0, 1, maxWind(0))}, 0, nil, hours(span(0, 0))}, {forecast(winds(0, 9), winds(9, 0)), nil, []api.Rule{rule(0, 0, maxWind(0))}, 0, nil, hours(span(0, 1))},
		// at the ends of what is allowed
		{exampleF(), nil, []api.Rule{rule(4, api.MaxHours, widest())}, 4, hours(span(0, 5)), hours(span(0, 5))}, {exampleF(), nil, []api.Rule{rule(4, 0, api.Limits{Temp: span(-50, -50)})}, 4, nil, nil},
	} {
		if sure, may, e := weather.Open(exampleN(), x.rules, x.f, x.seen, x.path); !slices.Equal(sure, x.sure) || !slices.Equal(may, x.may) || e != api.OK {
			t.Errorf("%d: Open of %d = %v, %v, %d, want %v, %v", i, x.path, sure, may, e, x.sure, x.may)
		}
	}
}

// TestP5_8_Safe: the example, Opens that begin or end within an hour, touch,
// overlap, and last beyond the forecast, and paths that are never open.
func TestP5_8_Safe(t *testing.T) {
	calm := []api.Rule{{Limits: maxWind(0)}}
	every := forecast(repeat(api.MaxHours, windy(0, 0)))
	for i, x := range []struct {
		f           api.Forecast
		rules       []api.Rule
		opens, want []api.Span
	}{
		{forecast(winds(0, 9, 0, 0)), calm, always(), []api.Span{span(0, 59), span(120, 239)}},
		// within an hour
		{forecast(winds(9, 0, 9)), calm, []api.Span{span(70, 100)}, []api.Span{span(70, 100)}}, {forecast(winds(9, 0, 9)), calm, []api.Span{span(30, 90)}, []api.Span{span(60, 90)}},
		{forecast(winds(9, 0, 9)), calm, []api.Span{span(90, 130)}, []api.Span{span(90, 119)}}, {forecast(winds(9, 0, 9)), calm, []api.Span{span(59, 59), span(120, 120)}, nil},
		{forecast(winds(9, 0, 9)), calm, []api.Span{span(60, 60), span(119, 119)}, []api.Span{span(60, 60), span(119, 119)}}, {forecast(winds(9, 0, 9)), calm, []api.Span{span(0, 60), span(119, 180)}, []api.Span{span(60, 60), span(119, 119)}},
		// in any order, overlapping and touching
		{forecast(winds(0, 0)), calm, []api.Span{span(80, 100), span(0, 10)}, []api.Span{span(0, 10), span(80, 100)}}, {forecast(winds(0, 0)), calm, []api.Span{span(30, 70), span(10, 30), span(71, 71)}, []api.Span{span(10, 71)}},
		{forecast(winds(0, 0)), calm, []api.Span{span(30, 70), span(10, 50), span(20, 40)}, []api.Span{span(10, 70)}}, {forecast(winds(0, 0)), calm, []api.Span{span(10, 59), span(60, 70)}, []api.Span{span(10, 70)}},
		{forecast(winds(0, 0)), calm, []api.Span{span(10, 58), span(60, 70)}, []api.Span{span(10, 58), span(60, 70)}}, {forecast(winds(0, 0)), calm, slices.Repeat([]api.Span{span(5, 6)}, api.MaxOpens), []api.Span{span(5, 6)}},
		// beyond the last hour of the forecast
		{forecast(winds(0, 0)), calm, []api.Span{span(100, 2880)}, []api.Span{span(100, 119)}}, {forecast(winds(0, 0)), calm, []api.Span{span(120, 2880)}, nil}, {forecast(winds(0, 0)), calm, []api.Span{span(119, 120)}, []api.Span{span(119, 119)}},
		{every, calm, always(), []api.Span{span(0, 2879)}}, {every, calm, []api.Span{span(2880, 2880)}, nil}, {every, calm, []api.Span{span(2879, 2880)}, []api.Span{span(2879, 2879)}},
		// never open
		{forecast(winds(9, 9)), calm, always(), nil}, {forecast(winds(0, 0)), calm, nil, nil}, {forecast(winds(9, 0)), calm, []api.Span{span(0, 59)}, nil},
		// just one span too many, and more: the first ones are kept
		{forecast(winds(0, 9, 0, 9, 0, 9, 0, 9, 0, 9, 0)), calm, always(), []api.Span{span(0, 59), span(120, 179), span(240, 299), span(360, 419), span(480, 539), span(600, 659)}},
		{forecast(winds(0, 9, 0, 9, 0, 9, 0, 9, 0, 9, 0, 9, 0)), calm, always(), []api.Span{span(0, 59), span(120, 179), span(240, 299), span(360, 419), span(480, 539), span(600, 659)}},
		{forecast(winds(0, 9, 0, 9, 0, 9, 0, 9, 0, 9, 0, 9, 0)), calm, []api.Span{span(720, 779), span(600, 659), span(20, 490)}, []api.Span{span(20, 59), span(120, 179), span(240, 299), span(360, 419), span(480, 490), span(600, 659)}},
		{forecast(append(repeat(40, windy(0, 9)), winds(0, 9, 0, 9, 0, 9, 0, 0)...)), calm, []api.Span{span(2880, 2880), span(2400, 2400), span(2520, 2699), span(2820, 2821), span(2819, 2819), span(2850, 2855)}, []api.Span{span(2400, 2400), span(2520, 2579), span(2640, 2699), span(2819, 2821), span(2850, 2855)}},
		// without rules as it was, in its order and beyond the forecast
		{forecast(winds(9, 9)), nil, []api.Span{span(80, 100), span(0, 10), span(5, 2880)}, []api.Span{span(80, 100), span(0, 10), span(5, 2880)}}, {forecast(winds(9)), nil, nil, nil},
		// a rule that closes nothing puts the spans in order, in the forecast
		{forecast(winds(9, 9)), []api.Rule{{Limits: widest()}}, []api.Span{span(80, 100), span(0, 10), span(5, 79)}, []api.Span{span(0, 100)}},
	} {
		n := oneNet(x.opens...)
		want := oneNet(x.want...)
		if n, e := weather.Safe(n, x.rules, x.f, nil); !sameNet(n, want) || e != api.OK {
			t.Errorf("%d: Safe = %v, %d, want %v", i, n, e, want)
		}
	}
}

// sameNet reports whether two nets are equal; nil and empty Opens are.
func sameNet(a, b api.Net) bool {
	return a.Places == b.Places && slices.EqualFunc(a.Paths, b.Paths, func(x, y api.Path) bool {
		same := slices.Equal(x.Opens, y.Opens)
		return same && x.From == y.From && x.To == y.To && x.Grade == y.Grade && x.Time == y.Time && x.Snow == y.Snow
	})
}

// TestP5_8_net: in the example nothing changes but the Opens of the path with a
// rule, also if observations open it in more hours.
func TestP5_8_net(t *testing.T) {
	for i, x := range []struct {
		seen []api.Sight
		want []api.Span
	}{
		{nil, []api.Span{span(180, 239)}}, {exampleO(), []api.Span{span(0, 59), span(180, 359)}},
	} {
		want := exampleN()
		want.Paths[1].Opens = x.want
		if n, e := weather.Safe(exampleN(), exampleR(), exampleF(), x.seen); !sameNet(n, want) || e != api.OK {
			t.Errorf("%d: Safe = %v, %d", i, n, e)
		}
	}
	rules := append(exampleR(), api.Rule{Path: 2, Limits: maxWind(20)})
	want := exampleN()
	want.Paths[1].Opens, want.Paths[2].Opens = []api.Span{span(180, 239)}, nil
	if n, e := weather.Safe(exampleN(), rules, exampleF(), nil); !sameNet(n, want) || e != api.OK {
		t.Errorf("Safe with two rules = %v, %d", n, e)
	}
	if n, e := weather.Safe(api.Net{Places: 3}, nil, exampleF(), nil); !sameNet(n, api.Net{Places: 3}) || e != api.OK {
		t.Errorf("Safe without paths = %v, %d", n, e)
	}
}
