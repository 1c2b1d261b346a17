package weather_test

import (
	"math"
	"math/rand"
	"reflect"
	"slices"
	"strings"
	"testing"

	"bivouac/api"
	"bivouac/weather"
)

// arguments are all that the functions of the package have.
type arguments struct {
	f                  api.Forecast
	n                  api.Net
	seen               []api.Sight
	l                  api.Limits
	rules              []api.Rule
	hour, length, path int
}

// calls are all functions of the package; each returns the other results, and
// the error.
var calls = []struct {
	name string
	call func(a arguments) ([]any, api.Errno)
	// uses tells which of the arguments the function has.
	uses string
}{
	{"Check", func(a arguments) ([]any, api.Errno) { return nil, weather.Check(a.f) }, "forecast"},
	{"Possible", func(a arguments) ([]any, api.Errno) {
		l, e := weather.Possible(a.f, a.seen)
		return []any{l}, e
	}, "forecast sights none"},
	{"Range", func(a arguments) ([]any, api.Errno) {
		h, e := weather.Range(a.f, a.seen, a.hour)
		return []any{h}, e
	}, "forecast sights hour none"},
	{"Keeps", func(a arguments) ([]any, api.Errno) {
		sure, may, e := weather.Keeps(a.f, a.seen, a.l)
		return []any{sure, may}, e
	}, "forecast sights limits none"},
	{"Window", func(a arguments) ([]any, api.Errno) {
		first, last, e := weather.Window(a.f, a.seen, a.l, a.length)
		return []any{first, last}, e
	}, "forecast sights limits length none"},
	{"Gap", func(a arguments) ([]any, api.Errno) {
		gap, e := weather.Gap(a.f, a.seen, a.l, a.length)
		return []any{gap}, e
	}, "forecast sights limits length none"},
	{"Open", func(a arguments) ([]any, api.Errno) {
		sure, may, e := weather.Open(a.n, a.rules, a.f, a.seen, a.path)
		return []any{sure, may}, e
	}, "forecast net sights rules path none"},
	{"Safe", func(a arguments) ([]any, api.Errno) {
		n, e := weather.Safe(a.n, a.rules, a.f, a.seen)
		return []any{n}, e
	}, "forecast net sights rules none"},
}

// steps are the errors in their order: what makes an argument wrong, and the
// error.
var steps = []struct {
	name  string
	spoil func(a *arguments)
	e     api.Errno
}{
	{"forecast", func(a *arguments) { a.f.Scenarios[1].Hours[5].Wind.High = api.MaxWind + 1 }, api.ErrForecast},
	{"net", func(a *arguments) { a.n.Paths[4].To = 4 }, api.ErrNet},
	{"sights", func(a *arguments) { a.seen = append(a.seen, sight(0, 15)) }, api.ErrSight},
	{"limits", func(a *arguments) { a.l.Wind = -1 }, api.ErrLimits},
	{"rules", func(a *arguments) { a.rules[0].After = -1 }, api.ErrRule},
	{"hour", func(a *arguments) { a.hour = 6 }, api.ErrArg},
	{"length", func(a *arguments) { a.length = 0 }, api.ErrArg},
	{"path", func(a *arguments) { a.path = 5 }, api.ErrArg},
	{"none", func(a *arguments) { a.seen[0].Sky.Wind = 46 }, api.ErrNone},
}

func goodArguments() arguments {
	return arguments{
		f: exampleF(), n: exampleN(), seen: exampleO(), l: exampleL(), rules: exampleR(),
		hour: 1, length: 2, path: 1,
	}
}

func copyArguments(a arguments) arguments {
	a.f, a.n = copyForecast(a.f), copyNet(a.n)
	a.seen, a.rules = slices.Clone(a.seen), slices.Clone(a.rules)
	return a
}

func isZero(results []any) bool {
	return !slices.ContainsFunc(results, func(x any) bool {
		v := reflect.ValueOf(x)
		return !v.IsZero() && (v.Kind() != reflect.Slice || v.Len() > 0)
	})
}

// check calls all functions that use some of the arguments.
func check(t *testing.T, what string, i int, uses string, a arguments, want api.Errno) {
	t.Helper()
	for _, f := range calls {
		if !slices.Contains(strings.Fields(f.uses), uses) {
			continue
		}
		if results, e := f.call(a); e != want || e != api.OK && !isZero(results) {
			t.Errorf("%s with %s %d: %v, %d, want %d", f.name, what, i, results, e, want)
		}
	}
}

// TestP1_order: each function returns the first of several errors, and then all
// its other results are zero. From some step on all that a function has is wrong.
func TestP1_order(t *testing.T) {
	for first := range len(steps) + 1 {
		a := goodArguments()
		for i := len(steps) - 1; i >= first; i-- {
			steps[i].spoil(&a)
		}
		for _, f := range calls {
			want := api.OK
			for _, step := range steps[first:] {
				if want == api.OK && slices.Contains(strings.Fields(f.uses), step.name) {
					want = step.e
				}
			}
			if results, e := f.call(a); e != want || e != api.OK && !isZero(results) {
				t.Errorf("%s with errors from %d on: %v, %d, want %d", f.name, first, results, e, want)
			}
		}
	}
}

// TestP1_pairs: so it is with any two errors.
func TestP1_pairs(t *testing.T) {
	for i, one := range steps {
		for _, two := range steps[i+1:] {
			for _, f := range calls {
				uses := strings.Fields(f.uses)
				if !slices.Contains(uses, one.name) || !slices.Contains(uses, two.name) {
					continue
				}
				a := goodArguments()
				two.spoil(&a)
				one.spoil(&a)
				if results, e := f.call(a); e != one.e || !isZero(results) {
					t.Errorf("%s with wrong %s and %s: %v, %d, want %d", f.name, one.name, two.name, results, e, one.e)
				}
			}
		}
	}
}

// TestP5_1_Check: valid forecasts at all limits, and each way not to be valid.
func TestP5_1_Check(t *testing.T) {
	wild := api.Hour{Wind: span(0, api.MaxWind), Rain: span(0, api.MaxRain), Temp: span(-api.MaxTemp, api.MaxTemp)}
	full := forecast(slices.Repeat([][]api.Hour{repeat(api.MaxHours, wild)}, api.MaxScenarios)...)
	for i, f := range []api.Forecast{
		exampleF(), full, forecast(repeat(1, wild)), forecast(repeat(1, api.Hour{})), sixScenarios(),
		forecast(repeat(2, windy(200, 200)), repeat(2, windy(0, 0))), forecast(repeat(api.MaxHours, windy(3, 3))),
		mixed([3]api.Span{span(5, 5), span(100, 100), span(50, 50)}, [3]api.Span{span(5, 5), span(0, 0), span(-50, -50)}),
	} {
		a := goodArguments()
		a.f, a.seen, a.hour = f, nil, 0
		check(t, "the valid forecast", i, "forecast", a, api.OK)
	}
	for i, f := range []api.Forecast{
		{}, {Scenarios: []api.Scenario{}}, {Scenarios: make([]api.Scenario, 1)}, {Scenarios: make([]api.Scenario, api.MaxScenarios)}, forecast([]api.Hour{}),
		forecast(slices.Repeat([][]api.Hour{repeat(2, wild)}, api.MaxScenarios+1)...), forecast(slices.Repeat([][]api.Hour{repeat(2, wild)}, 1000)...),
		forecast(repeat(api.MaxHours+1, wild)), forecast(repeat(5000, wild)), forecast(repeat(2, wild), repeat(3, wild)), forecast(repeat(3, wild), repeat(2, wild)),
		forecast(repeat(2, wild), nil), forecast(nil, repeat(2, wild)), forecast(repeat(2, wild), repeat(2, wild), repeat(api.MaxHours+1, wild)),
	} {
		a := goodArguments()
		a.f = f
		check(t, "the invalid forecast", i, "forecast", a, api.ErrForecast)
	}
	for i, h := range []api.Hour{
		windy(-1, 5), windy(5, 4), windy(5, 201), windy(201, 201), windy(math.MinInt, math.MaxInt), windy(0, math.MaxInt), windy(math.MinInt, 0),
		{Rain: span(-1, 5)}, {Rain: span(5, 4)}, {Rain: span(5, 101)}, {Rain: span(101, 101)}, {Rain: span(math.MaxInt, math.MinInt)},
		{Temp: span(-51, 5)}, {Temp: span(5, 4)}, {Temp: span(5, 51)}, {Temp: span(51, 51)}, {Temp: span(-51, -51)}, {Temp: span(math.MinInt, math.MinInt)},
	} {
		for scenario := range 2 {
			for _, hour := range []int{0, 5} {
				a := goodArguments()
				a.f.Scenarios[scenario].Hours[hour] = h
				check(t, "the invalid hour", i, "forecast", a, api.ErrForecast)
			}
		}
	}
}

// TestP1_nets: what makes a net invalid is told by paths; here are some ways.
func TestP1_nets(t *testing.T) {
	for i, change := range []func(n *api.Net){
		func(n *api.Net) { n.Places = 0 }, func(n *api.Net) { n.Places = api.MaxPlaces + 1 },
		func(n *api.Net) { n.Paths = slices.Repeat(n.Paths, 5) }, func(n *api.Net) { n.Paths[4].From = 3; n.Paths[4].To = 3 },
		func(n *api.Net) { n.Paths[2].Opens = make([]api.Span, api.MaxOpens+1) }, func(n *api.Net) { n.Paths[2].Opens[0].High = api.MaxMinute + 1 },
		func(n *api.Net) { n.Paths[0].Time = span(0, 5) }, func(n *api.Net) { *n = api.Net{} },
	} {
		a := goodArguments()
		change(&a.n)
		check(t, "the invalid net", i, "net", a, api.ErrNet)
		a.path = -1
		check(t, "the invalid net", i, "net", a, api.ErrNet)
	}
}

// TestP1_sights: too many observations, two of the same hour, and skies and hours
// that there are not; and those that are just valid, possible or not.
func TestP1_sights(t *testing.T) {
	sky := func(s api.Sky) []api.Sight { return []api.Sight{{Hour: 1, Sky: s}} }
	for i, seen := range [][]api.Sight{
		{sight(-1, 15)}, {sight(6, 15)}, {sight(math.MinInt, 15)}, {sight(math.MaxInt, 15)},
		{sight(3, 15), sight(3, 15)}, {sight(3, 15), sight(2, 15), sight(3, 16)}, {sight(0, 15), sight(1, 15), sight(6, 15)},
		slices.Repeat([]api.Sight{sight(1, 15)}, api.MaxSights), slices.Repeat([]api.Sight{sight(1, 15)}, 10000),
		sky(api.Sky{Wind: -1}), sky(api.Sky{Wind: api.MaxWind + 1}), sky(api.Sky{Wind: math.MaxInt}), sky(api.Sky{Rain: -1}), sky(api.Sky{Rain: api.MaxRain + 1}), sky(api.Sky{Rain: math.MinInt}),
		sky(api.Sky{Temp: -api.MaxTemp - 1}), sky(api.Sky{Temp: api.MaxTemp + 1}), sky(api.Sky{Temp: math.MaxInt}),
	} {
		a := goodArguments()
		a.seen = seen
		check(t, "the invalid observations", i, "sights", a, api.ErrSight)
	}
	for i, s := range []api.Sky{{Wind: api.MaxWind}, {Rain: api.MaxRain}, {Temp: -api.MaxTemp}, {Temp: api.MaxTemp}, {}} {
		a := goodArguments()
		a.seen = sky(s)
		check(t, "an impossible sky", i, "sights", a, api.ErrNone)
	}
	a := goodArguments()
	a.f, a.seen = forecast(repeat(api.MaxHours, windy(0, 20))), nil
	for hour := range api.MaxSights {
		a.seen = append(a.seen, sight(2*hour, 15))
	}
	check(t, "as many observations as may be", len(a.seen), "sights", a, api.OK)
	a.seen = append(a.seen, sight(47, 15))
	check(t, "one observation too many", len(a.seen), "sights", a, api.ErrSight)
}

// badLimits are changes, each of which makes limits invalid.
func badLimits() []func(l *api.Limits) {
	return []func(l *api.Limits){
		func(l *api.Limits) { l.Wind = -1 }, func(l *api.Limits) { l.Wind = api.MaxWind + 1 }, func(l *api.Limits) { l.Wind = math.MinInt },
		func(l *api.Limits) { l.Rain = -1 }, func(l *api.Limits) { l.Rain = api.MaxRain + 1 }, func(l *api.Limits) { l.Rain = math.MaxInt },
		func(l *api.Limits) { l.Temp = span(-51, 5) }, func(l *api.Limits) { l.Temp = span(5, 4) }, func(l *api.Limits) { l.Temp = span(5, 51) },
		func(l *api.Limits) { l.Temp = span(51, 51) }, func(l *api.Limits) { l.Temp = span(math.MinInt, math.MaxInt) },
	}
}

// TestP1_limits: limits outside what is allowed, and at its ends.
func TestP1_limits(t *testing.T) {
	for i, change := range badLimits() {
		a := goodArguments()
		change(&a.l)
		check(t, "the invalid limits", i, "limits", a, api.ErrLimits)
	}
	for i, l := range []api.Limits{{}, widest(), temps(-50, -50), temps(50, 50)} {
		a := goodArguments()
		a.l = l
		check(t, "the valid limits", i, "limits", a, api.OK)
	}
}

// TestP1_rules: too many rules, those for other paths, with invalid limits or
// After, whichever path is asked; and those that are just valid.
func TestP1_rules(t *testing.T) {
	changes := []func(r *api.Rule){
		func(r *api.Rule) { r.Path = -1 }, func(r *api.Rule) { r.Path = 5 }, func(r *api.Rule) { r.Path = math.MaxInt },
		func(r *api.Rule) { r.After = -1 }, func(r *api.Rule) { r.After = api.MaxHours + 1 }, func(r *api.Rule) { r.After = math.MinInt }, func(r *api.Rule) { r.After = math.MaxInt },
	}
	for _, change := range badLimits() {
		changes = append(changes, func(r *api.Rule) { change(&r.Limits) })
	}
	for i, change := range changes {
		a := goodArguments()
		rule := a.rules[0]
		change(&rule)
		a.path = 0
		a.rules = append(a.rules, rule)
		check(t, "the invalid rule", i, "rules", a, api.ErrRule)
		a.rules = []api.Rule{rule}
		check(t, "just the invalid rule", i, "rules", a, api.ErrRule)
	}
	a := goodArguments()
	a.rules = slices.Repeat(a.rules, api.MaxRules+1)
	check(t, "too many rules", len(a.rules), "rules", a, api.ErrRule)
	a.rules = slices.Repeat(exampleR(), 1000)
	check(t, "too many rules", len(a.rules), "rules", a, api.ErrRule)
	for i, rules := range [][]api.Rule{
		nil, slices.Repeat(exampleR(), api.MaxRules), {{Path: 4, After: api.MaxHours, Limits: widest()}}, {{Path: 0}},
	} {
		a.rules = rules
		check(t, "the valid rules", i, "rules", a, api.OK)
	}
	a.n, a.path = api.Net{Places: 3}, 0
	a.rules = []api.Rule{{}}
	check(t, "a rule in a net without paths", 0, "rules", a, api.ErrRule)
}

// TestP1_arguments: each hour, length and path outside its limits, and at them.
func TestP1_arguments(t *testing.T) {
	for _, x := range []struct {
		name      string
		bad, good []int
	}{
		{"hour", []int{-1, 6, 47, math.MinInt, math.MaxInt}, []int{0, 5}},
		{"length", []int{-1, 0, api.MaxHours + 1, math.MinInt, math.MaxInt}, []int{1, 6, 7, api.MaxHours}},
		{"path", []int{-1, 5, math.MinInt, math.MaxInt}, []int{0, 4}},
	} {
		for _, value := range append(x.bad, x.good...) {
			a := goodArguments()
			*map[string]*int{"hour": &a.hour, "length": &a.length, "path": &a.path}[x.name] = value
			want := api.OK
			if slices.Contains(x.bad, value) {
				want = api.ErrArg
			}
			check(t, x.name, value, x.name, a, want)
		}
	}
	a := goodArguments()
	a.n, a.rules, a.path = api.Net{Places: 1}, nil, 0
	if results, e := calls[6].call(a); e != api.ErrArg || !isZero(results) {
		t.Errorf("%s of a net without paths: %v, %d", calls[6].name, results, e)
	}
}

// spoilResults writes into all memory of results.
func spoilResults(results []any) {
	for _, x := range results {
		switch x := x.(type) {
		case []int:
			for i := range x {
				x[i] = -7
			}
		case []api.Span:
			for i := range x {
				x[i] = span(-7, -7)
			}
		case api.Net:
			for i := range x.Paths {
				for j := range x.Paths[i].Opens {
					x.Paths[i].Opens[j] = span(-7, -7)
				}
				x.Paths[i].Grade = -7
			}
		}
	}
}

// TestP1_memory: no argument is changed, no result shares memory with one, and
// nothing is kept.
func TestP1_memory(t *testing.T) {
	for _, f := range calls {
		given := goodArguments()
		first, _ := f.call(given)
		spoilResults(first)
		if !reflect.DeepEqual(given, goodArguments()) {
			t.Errorf("%s changes its arguments: %+v", f.name, given)
		}
		again, _ := f.call(given)
		if fresh, _ := f.call(copyArguments(given)); !reflect.DeepEqual(again, fresh) {
			t.Errorf("%s keeps something: %v, %v", f.name, again, fresh)
		}
	}
	sure, may, _ := weather.Keeps(exampleF(), nil, widest())
	sure[0] = span(-7, -7)
	if may[0] != span(0, 5) {
		t.Error("the results of Keeps share memory")
	}
	sure, may, _ = weather.Open(exampleN(), nil, exampleF(), nil, 0)
	sure[0] = span(-7, -7)
	if may[0] != span(0, 5) {
		t.Error("the results of Open share memory")
	}
	shared := exampleN()
	shared.Paths[1].Opens, shared.Paths[2].Opens = shared.Paths[0].Opens, shared.Paths[0].Opens
	n, _ := weather.Safe(shared, nil, exampleF(), nil)
	n.Paths[0].Opens[0] = span(-7, -7)
	if n.Paths[1].Opens[0] != always()[0] || shared.Paths[0].Opens[0] != always()[0] {
		t.Error("the paths of Safe share memory")
	}
}

// TestP1_capacity: what lies behind the end of a slice is neither read nor
// changed; nil and empty slices are the same.
func TestP1_capacity(t *testing.T) {
	a := goodArguments()
	a.f.Scenarios = append(a.f.Scenarios, api.Scenario{})[:2]
	a.f.Scenarios[0].Hours = append(a.f.Scenarios[0].Hours, windy(9, -9))[:6]
	a.seen = append(a.seen, sight(-9, -9))[:1]
	a.rules = append(a.rules, api.Rule{Path: -9})[:1]
	a.n.Paths[1].Opens = append(a.n.Paths[1].Opens, span(9, -9))[:1]
	for _, f := range calls {
		want, e := f.call(goodArguments())
		if results, e2 := f.call(a); !reflect.DeepEqual(results, want) || e != e2 {
			t.Errorf("%s: %v, %d, want %v, %d", f.name, results, e2, want, e)
		}
	}
	hours, opens := a.f.Scenarios[0].Hours[:7], a.n.Paths[1].Opens[:2]
	if hours[6] != windy(9, -9) || opens[1] != span(9, -9) || a.seen[:2][1] != sight(-9, -9) || a.rules[:2][1].Path != -9 {
		t.Errorf("something behind the end of a slice is changed: %+v", a)
	}
	a.seen, a.rules, a.n.Paths[1].Opens = nil, nil, nil
	b := copyArguments(a)
	b.seen, b.rules, b.n.Paths[1].Opens = []api.Sight{}, []api.Rule{}, []api.Span{}
	for _, f := range calls[:7] {
		want, e := f.call(a)
		if results, e2 := f.call(b); !reflect.DeepEqual(results, want) || e != e2 {
			t.Errorf("%s of empty slices: %v, %d, want %v, %d", f.name, results, e2, want, e)
		}
	}
	one, _ := weather.Safe(a.n, a.rules, a.f, a.seen)
	two, _ := weather.Safe(b.n, b.rules, b.f, b.seen)
	if !sameNet(one, two) {
		t.Errorf("Safe of empty slices: %v, %v", one, two)
	}
}

// TestP1_any: no function panics, and each terminates, for wild arguments; a
// forecast that is not valid is told from one that is.
func TestP1_any(t *testing.T) {
	r := rand.New(rand.NewSource(1))
	values := []int{math.MinInt, -51, -1, 0, 0, 1, 1, 2, 4, 5, 6, 10, 20, 47, 48, 50, 100, 200, 201, 2880, math.MaxInt}
	number := func() int { return values[r.Intn(len(values))] }
	for range 5000 {
		a := goodArguments()
		a.hour, a.length, a.path = number(), number(), number()
		fields := []*int{
			&a.f.Scenarios[0].Hours[3].Wind.Low, &a.f.Scenarios[1].Hours[0].Rain.High, &a.f.Scenarios[0].Hours[5].Temp.Low,
			&a.seen[0].Hour, &a.seen[0].Sky.Wind, &a.seen[0].Sky.Temp, &a.l.Wind, &a.l.Temp.Low, &a.l.Temp.High,
			&a.rules[0].Path, &a.rules[0].After, &a.rules[0].Limits.Rain, &a.n.Places, &a.n.Paths[1].Opens[0].High,
		}
		for range r.Intn(4) {
			*fields[r.Intn(len(fields))] = number()
		}
		if r.Intn(5) == 0 {
			s := &a.f.Scenarios[r.Intn(2)]
			s.Hours = s.Hours[:r.Intn(6)]
		}
		e := weather.Check(a.f)
		for _, f := range calls {
			if _, e2 := f.call(a); (e2 == api.ErrForecast) != (e == api.ErrForecast) {
				t.Errorf("%s of %+v: %d", f.name, a, e2)
			}
		}
	}
	for _, f := range calls {
		if results, e := f.call(arguments{}); e != api.ErrForecast || !isZero(results) {
			t.Errorf("%s of nothing: %v, %d", f.name, results, e)
		}
	}
}
