package paths

import (
	"slices"

	"bivouac/api"
)

// The smallest and the greatest pace of a party, in percent.
const (
	minPace = 50
	maxPace = 300
)

func validNet(n api.Net) bool {
	if n.Places < 1 || n.Places > api.MaxPlaces || len(n.Paths) > api.MaxPaths {
		return false
	}
	invalid := func(path api.Path) bool { return !validPath(n, path) }
	return !slices.ContainsFunc(n.Paths, invalid)
}

func validPath(n api.Net, path api.Path) bool {
	if !isPlace(n, path.From) || !isPlace(n, path.To) || path.From == path.To {
		return false
	}
	if !validGrade(path.Grade) || len(path.Opens) > api.MaxOpens {
		return false
	}
	invalid := func(opens api.Span) bool { return !isWithin(opens, 0, api.MaxMinute) }
	return isWithin(path.Time, 1, api.MaxTime) && isWithin(path.Snow, 0, api.MaxSnow) &&
		!slices.ContainsFunc(path.Opens, invalid)
}

func validParty(p api.Party) bool {
	return validGrade(p.Grade) && isWithin(p.Pace, minPace, maxPace) &&
		p.Load >= 0 && p.Load <= api.MaxLoad
}

func validGrade(grade int) bool { return grade >= 1 && grade <= api.MaxGrade }

func isPlace(n api.Net, place int) bool { return place >= 0 && place < n.Places }

func isPath(n api.Net, path int) bool { return path >= 0 && path < len(n.Paths) }

// isWithin reports whether a span has elements, all of them from low to high.
func isWithin(s api.Span, low, high int) bool {
	return low <= s.Low && s.Low <= s.High && s.High <= high
}
