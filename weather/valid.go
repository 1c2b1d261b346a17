package weather

import (
	"cmp"

	"bivouac/api"
)

// begin returns the outlook that a forecast and observations give, unless one of
// the checks found an error: then the first one of these. ErrNone if no scenario
// is possible. No check relies on the ones before it.
func begin(f api.Forecast, seen []api.Sight, checks ...api.Errno) (outlook, api.Errno) {
	if e := cmp.Or(checks...); e != api.OK {
		return outlook{}, e
	}
	o := newOutlook(f, seen)
	if len(o.numbers) == 0 {
		return outlook{}, api.ErrNone
	}
	return o, api.OK
}

// beginWindows is begin for a function that asks for windows.
func beginWindows(f api.Forecast, seen []api.Sight, l api.Limits, length int) (windows, api.Errno) {
	isLength := isWithin(length, 1, api.MaxHours)
	o, e := begin(f, seen, Check(f), checkSights(f, seen), checkLimits(l), checkArg(isLength))
	return windows{outlook: o, limits: limits{l}, length: length}, e
}

func unless(ok bool, e api.Errno) api.Errno {
	if ok {
		return api.OK
	}
	return e
}

func checkArg(ok bool) api.Errno { return unless(ok, api.ErrArg) }

func checkSights(f api.Forecast, seen []api.Sight) api.Errno {
	return unless(validSights(f, seen), api.ErrSight)
}

func checkLimits(l api.Limits) api.Errno { return unless(validLimits(l), api.ErrLimits) }

func checkRules(n api.Net, rules []api.Rule) api.Errno {
	valid := func(r api.Rule) bool {
		return isPath(n, r.Path) && validLimits(r.Limits) && isWithin(r.After, 0, api.MaxHours)
	}
	return unless(len(rules) <= api.MaxRules && all(rules, valid), api.ErrRule)
}

func validForecast(f api.Forecast) bool {
	valid := func(s api.Scenario) bool { return len(s.Hours) == hours(f) && all(s.Hours, validHour) }
	return isWithin(len(f.Scenarios), 1, api.MaxScenarios) && isWithin(hours(f), 1, api.MaxHours) &&
		all(f.Scenarios, valid)
}

func validHour(h api.Hour) bool {
	return isPart(h.Wind, api.Span{High: widest.Wind}) && isPart(h.Rain, api.Span{High: widest.Rain}) &&
		isPart(h.Temp, widest.Temp)
}

// validSights reports whether observations are not too many, and each in an hour
// of its own.
func validSights(f api.Forecast, seen []api.Sight) bool {
	if len(seen) > api.MaxSights {
		return false
	}
	count := map[int]int{}
	for _, s := range seen {
		count[s.Hour]++
	}
	return all(seen, func(s api.Sight) bool {
		return count[s.Hour] == 1 && isWithin(s.Hour, 0, hours(f)-1) && validHour(just(s.Sky))
	})
}

func validLimits(l api.Limits) bool {
	return isWithin(l.Wind, 0, widest.Wind) && isWithin(l.Rain, 0, widest.Rain) && isPart(l.Temp, widest.Temp)
}

// hours returns the number of hours of a forecast.
func hours(f api.Forecast) int {
	if len(f.Scenarios) == 0 {
		return 0
	}
	return len(f.Scenarios[0].Hours)
}

func isPath(n api.Net, path int) bool { return isWithin(path, 0, len(n.Paths)-1) }

func isWithin(x, low, high int) bool { return low <= x && x <= high }

// isPart reports whether a span has elements, all of them from another one.
func isPart(s, of api.Span) bool { return of.Low <= s.Low && s.Low <= s.High && s.High <= of.High }

// all reports whether something is so of all elements of a list.
func all[T any](list []T, is func(T) bool) bool {
	for _, x := range list {
		if !is(x) {
			return false
		}
	}
	return true
}
