package weather

import (
	"slices"

	"bivouac/api"
)

const minutesPerHour = 60

// regime is an outlook with rules, all of which must be kept.
type regime struct {
	outlook
	rules []api.Rule
}

// regime returns the outlook with those of some rules that are for a path.
func (o outlook) regime(rules []api.Rule, path int) regime {
	r := regime{outlook: o}
	for _, rule := range rules {
		if rule.Path == path {
			r.rules = append(r.rules, rule)
		}
	}
	return r
}

// asked returns what the rules together ask of an hour, so that it is open by
// them in an hour that is not before it. One sky must keep the limits of all of
// them, not just of each.
func (r regime) asked(hour, open int) limits {
	l := limits{widest}
	for _, rule := range r.rules {
		if open-rule.After <= hour {
			l = l.and(rule.Limits)
		}
	}
	return l
}

// isOpen reports whether a scenario keeps the rules in an hour.
func (r regime) isOpen(s api.Scenario, open int, kept keeping) bool {
	for hour, h := range s.Hours[:open+1] {
		if !kept(r.asked(hour, open), h) {
			return false
		}
	}
	return true
}

// surelyOpen returns the hours in which the rules are kept in all possible
// weathers.
func (r regime) surelyOpen() []api.Span {
	return spans(r.hours, func(hour int) bool {
		return all(r.scenarios, func(s api.Scenario) bool { return r.isOpen(s, hour, limits.surely) })
	})
}

// maybeOpen returns the hours in which the rules are kept in some possible
// weather.
func (r regime) maybeOpen() []api.Span {
	return spans(r.hours, func(hour int) bool {
		return slices.ContainsFunc(r.scenarios, func(s api.Scenario) bool { return r.isOpen(s, hour, limits.maybe) })
	})
}

// safeOpens returns when a path opens in hours in which it surely is open by the
// rules, in as many spans as a path may have; without rules, as before.
func (r regime) safeOpens(path api.Path) []api.Span {
	if len(r.rules) == 0 {
		return slices.Clone(path.Opens)
	}
	sure := r.surelyOpen()
	opens := spans(r.hours*minutesPerHour, func(minute int) bool {
		return isIn(minute, path.Opens) && isIn(minute/minutesPerHour, sure)
	})
	return opens[:min(len(opens), api.MaxOpens)]
}
