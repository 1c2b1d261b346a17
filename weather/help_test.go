package weather_test

import (
	"math/rand"
	"slices"
	"testing"

	"bivouac/api"
	"bivouac/weather"
)

func span(low, high int) api.Span { return api.Span{Low: low, High: high} }

// always is the Opens of a path that is never closed.
func always() []api.Span { return []api.Span{span(0, api.MaxMinute)} }

// windy returns an hour of the chapter's forecast F.
func windy(low, high int) api.Hour {
	return api.Hour{Wind: span(low, high), Rain: span(0, 0), Temp: span(0, 10)}
}

func repeat(count int, h api.Hour) []api.Hour { return slices.Repeat([]api.Hour{h}, count) }

// forecast returns a forecast of some scenarios.
func forecast(scenarios ...[]api.Hour) api.Forecast {
	var f api.Forecast
	for _, hours := range scenarios {
		f.Scenarios = append(f.Scenarios, api.Scenario{Hours: hours})
	}
	return f
}

// winds returns a scenario of hours that have just some winds.
func winds(values ...int) []api.Hour {
	var hours []api.Hour
	for _, wind := range values {
		hours = append(hours, windy(wind, wind))
	}
	return hours
}

// exampleF is the forecast F of the chapter.
func exampleF() api.Forecast {
	return forecast(
		append(repeat(4, windy(10, 20)), repeat(2, windy(30, 60))...),
		append(repeat(2, windy(15, 45)), repeat(4, windy(10, 20))...),
	)
}

// exampleL are the limits L of the chapter.
func exampleL() api.Limits { return api.Limits{Wind: 40, Temp: span(-5, 15)} }

// exampleO is the observation O of the chapter, as a list.
func exampleO() []api.Sight { return []api.Sight{sight(0, 30)} }

func sight(hour, wind int) api.Sight {
	return api.Sight{Hour: hour, Sky: api.Sky{Wind: wind, Temp: 5}}
}

// exampleR is the rule R of the chapter, as a list.
func exampleR() []api.Rule { return []api.Rule{{Path: 1, After: 1, Limits: exampleL()}} }

// exampleN is the net N of the chapter of paths.
func exampleN() api.Net {
	return api.Net{Places: 4, Paths: []api.Path{
		{From: 0, To: 1, Grade: 2, Time: span(100, 120), Opens: always()},
		{From: 1, To: 2, Grade: 3, Time: span(60, 90), Snow: span(4, 10), Opens: always()},
		{From: 2, To: 3, Grade: 2, Time: span(60, 60), Opens: []api.Span{span(400, 700)}},
		{From: 0, To: 3, Grade: 2, Time: span(300, 400), Opens: always()},
		{From: 3, To: 0, Grade: 2, Time: span(200, 240), Opens: always()},
	}}
}

// oneNet returns a net with one path that opens in some spans.
func oneNet(opens ...api.Span) api.Net {
	return api.Net{Places: 2, Paths: []api.Path{{To: 1, Grade: 1, Time: span(1, 1), Opens: opens}}}
}

func widest() api.Limits {
	return api.Limits{Wind: api.MaxWind, Rain: api.MaxRain, Temp: span(-api.MaxTemp, api.MaxTemp)}
}

func maxWind(wind int) api.Limits {
	l := widest()
	l.Wind = wind
	return l
}

func temps(low, high int) api.Limits {
	l := widest()
	l.Temp = span(low, high)
	return l
}

func copyForecast(f api.Forecast) api.Forecast {
	f.Scenarios = slices.Clone(f.Scenarios)
	for i := range f.Scenarios {
		f.Scenarios[i].Hours = slices.Clone(f.Scenarios[i].Hours)
	}
	return f
}

func copyNet(n api.Net) api.Net {
	n.Paths = slices.Clone(n.Paths)
	for i := range n.Paths {
		n.Paths[i].Opens = slices.Clone(n.Paths[i].Opens)
	}
	return n
}

// with returns a list with one more element, in memory of its own.
func with[T any](list []T, x T) []T { return append(slices.Clone(list), x) }

// isIn reports whether a number is in one of some spans.
func isIn(x int, list []api.Span) bool {
	return slices.ContainsFunc(list, func(s api.Span) bool { return s.Low <= x && x <= s.High })
}

// spansOf returns the numbers at which a list is true as the longest spans.
func spansOf(list []bool) []api.Span {
	var spans []api.Span
	for low := 0; low < len(list); low++ {
		if !list[low] || low > 0 && list[low-1] {
			continue
		}
		high := low
		for high+1 < len(list) && list[high+1] {
			high++
		}
		spans = append(spans, span(low, high))
	}
	return spans
}

// isWithin reports whether all that the first spans contain the others do, too.
func isWithin(a, b []api.Span) bool {
	for _, s := range a {
		for x := s.Low; x <= s.High; x++ {
			if !isIn(x, b) {
				return false
			}
		}
	}
	return true
}

// keeps reports whether a sky keeps limits.
func keeps(s api.Sky, l api.Limits) bool {
	return s.Wind <= l.Wind && s.Rain <= l.Rain && l.Temp.Low <= s.Temp && s.Temp <= l.Temp.High
}

// isOpen reports whether a path is open by all rules in an hour of a weather.
func isOpen(sky []api.Sky, rules []api.Rule, path, hour int) bool {
	for _, rule := range rules {
		for h := max(0, hour-rule.After); h <= hour && rule.Path == path; h++ {
			if !keeps(sky[h], rule.Limits) {
				return false
			}
		}
	}
	return true
}

// begins reports whether a window begins at an hour of a weather.
func begins(sky []api.Sky, l api.Limits, length, hour int) bool {
	for h := hour; h < hour+length; h++ {
		if h >= len(sky) || !keeps(sky[h], l) {
			return false
		}
	}
	return true
}

// firstWindow returns the hour at which the first window of a weather begins,
// or -1.
func firstWindow(sky []api.Sky, l api.Limits, length int) int {
	for hour := range sky {
		if begins(sky, l, length, hour) {
			return hour
		}
	}
	return -1
}

// isWithout reports whether some hours of a weather contain no whole window.
func isWithout(sky []api.Sky, l api.Limits, length int) bool {
	return firstWindow(sky, l, length) < 0
}

// gapOf returns the greatest number of hours of a weather without a window.
func gapOf(sky []api.Sky, l api.Limits, length int) int {
	gap := 0
	for low := range sky {
		for high := low; high < len(sky); high++ {
			if isWithout(sky[low:high+1], l, length) {
				gap = max(gap, high-low+1)
			}
		}
	}
	return gap
}

// canBe reports whether an hour can have a sky.
func canBe(h api.Hour, s api.Sky) bool {
	return h.Wind.Low <= s.Wind && s.Wind <= h.Wind.High && h.Rain.Low <= s.Rain && s.Rain <= h.Rain.High &&
		h.Temp.Low <= s.Temp && s.Temp <= h.Temp.High
}

// isPossible reports whether a scenario is possible for observations.
func isPossible(s api.Scenario, seen []api.Sight) bool {
	return !slices.ContainsFunc(seen, func(x api.Sight) bool { return !canBe(s.Hours[x.Hour], x.Sky) })
}

// isSeen reports whether an hour with a sky is as it was seen, if it was.
func isSeen(seen []api.Sight, hour int, s api.Sky) bool {
	return !slices.ContainsFunc(seen, func(x api.Sight) bool { return x.Hour == hour && x.Sky != s })
}

// skies returns all skies that an hour can have.
func skies(h api.Hour) []api.Sky {
	var list []api.Sky
	for wind := h.Wind.Low; wind <= h.Wind.High; wind++ {
		for rain := h.Rain.Low; rain <= h.Rain.High; rain++ {
			for temp := h.Temp.Low; temp <= h.Temp.High; temp++ {
				list = append(list, api.Sky{Wind: wind, Rain: rain, Temp: temp})
			}
		}
	}
	return list
}

// weathers returns all possible weathers of a forecast that has few of them.
func weathers(f api.Forecast, seen []api.Sight) [][]api.Sky {
	var all [][]api.Sky
	for _, s := range f.Scenarios {
		some := [][]api.Sky{nil}
		for hour, h := range s.Hours {
			var longer [][]api.Sky
			for _, sky := range skies(h) {
				for _, before := range some {
					if isSeen(seen, hour, sky) {
						longer = append(longer, with(before, sky))
					}
				}
			}
			some = longer
		}
		all = append(all, some...)
	}
	return all
}

// inAll and inSome tell for each hour whether something is so of it in all of
// some weathers, and in some of them.
func inAll(all [][]api.Sky, is func(sky []api.Sky, hour int) bool) []bool {
	not := inSome(all, func(sky []api.Sky, hour int) bool { return !is(sky, hour) })
	for i := range not {
		not[i] = !not[i]
	}
	return not
}

func inSome(all [][]api.Sky, is func(sky []api.Sky, hour int) bool) []bool {
	list := make([]bool, len(all[0]))
	for hour := range list {
		list[hour] = slices.ContainsFunc(all, func(sky []api.Sky) bool { return is(sky, hour) })
	}
	return list
}

// pick returns a number of a span, often one of its ends.
func pick(r *rand.Rand, s api.Span) int {
	return []int{s.Low, s.High, s.Low + r.Intn(s.High-s.Low+1)}[r.Intn(3)]
}

func pickSky(r *rand.Rand, h api.Hour) api.Sky {
	return api.Sky{Wind: pick(r, h.Wind), Rain: pick(r, h.Rain), Temp: pick(r, h.Temp)}
}

// pickWeather returns some possible weather; some scenario must be possible.
func pickWeather(r *rand.Rand, f api.Forecast, seen []api.Sight) []api.Sky {
	var sky []api.Sky
	for _, i := range r.Perm(len(f.Scenarios)) {
		if !isPossible(f.Scenarios[i], seen) {
			continue
		}
		for _, h := range f.Scenarios[i].Hours {
			sky = append(sky, pickSky(r, h))
		}
		for _, x := range seen {
			sky[x.Hour] = x.Sky
		}
		return sky
	}
	return nil
}

// size tells how great random forecasts are.
type size struct {
	scenarios, hours, wind, rain, temp int
	wide                               bool // more than a few weathers
}

// small is the size of forecasts all of whose weathers can be gone through.
func small() size { return size{scenarios: 3, hours: 4, wind: 3, rain: 1, temp: 2} }

func large() size {
	return size{scenarios: api.MaxScenarios, hours: api.MaxHours, wind: api.MaxWind, rain: api.MaxRain, temp: api.MaxTemp, wide: true}
}

func (z size) span(r *rand.Rand, low, high int) api.Span {
	a := low + r.Intn(high-low+1)
	if z.wide {
		b := low + r.Intn(high-low+1)
		return span(min(a, b), max(a, b))
	}
	return span(a, min(high, a+r.Intn(2)*r.Intn(2)))
}

func (z size) hour(r *rand.Rand) api.Hour {
	return api.Hour{Wind: z.span(r, 0, z.wind), Rain: z.span(r, 0, z.rain), Temp: z.span(r, -z.temp, z.temp)}
}

// narrow returns part of an hour, so that hours of large forecasts keep limits
// surely, too.
func (z size) narrow(r *rand.Rand, h api.Hour) api.Hour {
	if !z.wide || r.Intn(4) == 0 {
		return h
	}
	return api.Hour{Wind: span(h.Wind.Low, h.Wind.Low+(h.Wind.High-h.Wind.Low)/4), Rain: span(h.Rain.Low, h.Rain.Low), Temp: span(h.Temp.Low, h.Temp.Low+(h.Temp.High-h.Temp.Low)/4)}
}

// forecast returns a forecast whose scenarios often are alike in an hour.
func (z size) forecast(r *rand.Rand) api.Forecast {
	var f api.Forecast
	hours, scenarios := 1+r.Intn(z.hours), 1+r.Intn(z.scenarios)
	for range scenarios {
		var s api.Scenario
		for hour := range hours {
			h := z.narrow(r, z.hour(r))
			if len(f.Scenarios) > 0 && r.Intn(2) == 0 {
				h = f.Scenarios[0].Hours[hour]
			}
			s.Hours = append(s.Hours, h)
		}
		f.Scenarios = append(f.Scenarios, s)
	}
	return f
}

// limits returns limits of which most are not very narrow.
func (z size) limits(r *rand.Rand) api.Limits {
	l := api.Limits{Wind: max(r.Intn(z.wind+1), r.Intn(z.wind+1)), Rain: max(r.Intn(z.rain+1), r.Intn(z.rain+1))}
	a, b := z.span(r, -z.temp, z.temp), z.span(r, -z.temp, z.temp)
	l.Temp = span(min(a.Low, b.Low), max(a.High, b.High))
	return l
}

// sights returns observations of a weather of one of the scenarios, or
// sometimes of any sky.
func (z size) sights(r *rand.Rand, f api.Forecast) []api.Sight {
	s := f.Scenarios[r.Intn(len(f.Scenarios))]
	var seen []api.Sight
	for _, hour := range r.Perm(len(s.Hours))[:r.Intn(min(len(s.Hours), api.MaxSights)+1)] {
		x := api.Sight{Hour: hour, Sky: pickSky(r, s.Hours[hour])}
		if r.Intn(12) == 0 {
			x.Sky = pickSky(r, z.hour(r))
		}
		seen = append(seen, x)
	}
	if r.Intn(3) == 0 {
		return nil
	}
	return seen
}

func (z size) rules(r *rand.Rand, n api.Net) []api.Rule {
	var rules []api.Rule
	for range r.Intn(5) {
		after := []int{0, 0, 1, 2, 3, api.MaxHours}[r.Intn(6)]
		rules = append(rules, api.Rule{Path: r.Intn(len(n.Paths)), After: after, Limits: z.limits(r)})
	}
	return rules
}

// randomNet returns a net whose paths open in spans that may overlap, in any
// order, most of them in the first hours.
func randomNet(r *rand.Rand, hours int) api.Net {
	n := api.Net{Places: 2 + r.Intn(3)}
	for range 1 + r.Intn(6) {
		from := r.Intn(n.Places)
		to := (from + 1 + r.Intn(n.Places-1)) % n.Places
		path := api.Path{From: from, To: to, Grade: 1, Time: span(10, 10+r.Intn(90)), Opens: always()}
		if r.Intn(3) > 0 {
			path.Opens = randomOpens(r, 60*hours)
		}
		n.Paths = append(n.Paths, path)
	}
	return n
}

func randomOpens(r *rand.Rand, minutes int) []api.Span {
	var opens []api.Span
	for range r.Intn(api.MaxOpens + 1) {
		low := r.Intn(minutes)
		high := min(low+r.Intn(minutes/2+1), api.MaxMinute)
		if k := len(opens); k > 0 && r.Intn(4) == 0 && opens[k-1].High < api.MaxMinute {
			low = opens[k-1].High + r.Intn(2)
			high = min(low+r.Intn(100), api.MaxMinute)
		}
		opens = append(opens, span(low, high))
	}
	return opens
}

// question is all that a function can be asked about.
type question struct {
	f     api.Forecast
	seen  []api.Sight
	l     api.Limits
	n     api.Net
	rules []api.Rule
	// length is one of a window.
	length int
}

func (z size) question(r *rand.Rand) question {
	f := z.forecast(r)
	hours := len(f.Scenarios[0].Hours)
	n := randomNet(r, hours)
	length := 1 + r.Intn(min(hours+1, api.MaxHours))
	if z.wide {
		length = min(length, 1+r.Intn(4))
	}
	return question{f: f, seen: z.sights(r, f), l: z.limits(r), n: n, rules: z.rules(r, n), length: length}
}

// eachQuestion calls visit for random questions for which some scenario is
// possible.
func eachQuestion(t *testing.T, z size, seed int64, cases int, visit func(r *rand.Rand, q question)) {
	t.Helper()
	r := rand.New(rand.NewSource(seed))
	possible := 0
	for i := range cases {
		q := z.question(r)
		if _, e := weather.Possible(q.f, q.seen); e == api.ErrNone {
			continue
		}
		possible++
		visit(r, q)
		if t.Failed() {
			t.Fatalf("case %d: %+v", i, q)
		}
	}
	if possible < cases*2/3 {
		t.Errorf("just %d of %d cases with a possible scenario", possible, cases)
	}
}
