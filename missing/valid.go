package missing

import (
	"slices"

	"bivouac/api"
	"bivouac/paths"
)

// enter checks a net and a party.
func enter(n api.Net, p api.Party) (country, api.Errno) {
	// Arrive tells the errors of a net and of a party; each net has a place 0.
	if _, _, e := paths.Arrive(n, p, 0, 0); e != api.OK {
		return country{}, e
	}
	return newCountry(n, p), api.OK
}

// begin checks a net and a missed party with its clues.
func begin(n api.Net, x api.Missed) (hunt, api.Errno) {
	c, e := enter(n, x.Party)
	if e != api.OK {
		return hunt{}, e
	}
	h := hunt{country: c, Missed: x}
	if !h.isValid() {
		return hunt{}, api.ErrHunt
	}
	if !h.hasValidClues() {
		return hunt{}, api.ErrClue
	}
	return h, api.OK
}

// beginSearch checks a net, a rescue party, and the bases and spots of a search.
func beginSearch(n api.Net, rescue api.Party, bases []int, spots []api.Spot) (search, api.Errno) {
	c, e := enter(n, rescue)
	if e != api.OK {
		return search{}, e
	}
	noPlace := func(place int) bool { return !c.isPlace(place) }
	if !isWithin(len(bases), 1, api.MaxTeams) || slices.ContainsFunc(bases, noPlace) || !c.areSpots(spots) {
		return search{}, api.ErrTeams
	}
	return search{country: c, spots: spots, between: c.ways()}, api.OK
}

func (h hunt) isValid() bool {
	return h.isPlace(h.Place) && isMinute(h.Start) && isWithin(h.Rest, 0, api.MaxTime) &&
		isWithin(h.Now, h.Start, api.MaxMinute)
}

func (h hunt) hasValidClues() bool {
	invalid := func(c api.Clue) bool {
		return !isWithin(c.Minute, h.Start, h.Now) || !isWithin(c.Places, 1, 1<<h.Places-1)
	}
	return len(h.Clues) <= api.MaxClues && !slices.ContainsFunc(h.Clues, invalid)
}

// isEnd reports whether a trace may be asked for that ends at a place or on a path,
// one of which is none.
func (h hunt) isEnd(place, path int) bool {
	if path == noPath {
		return h.isPlace(place)
	}
	return place == noPlace && isWithin(path, 0, len(h.Paths)-1)
}

func (c country) areSpots(spots []api.Spot) bool {
	invalid := func(s api.Spot) bool {
		return !c.isPlace(s.Place) || !isWithin(s.Weight, 0, api.MaxWeight) || !isWithin(s.Search, 0, api.MaxSearch)
	}
	return isWithin(len(spots), 1, api.MaxSpots) && !slices.ContainsFunc(spots, invalid)
}

func (c country) isPlace(place int) bool { return isWithin(place, 0, c.Places-1) }

func isMinute(minute int) bool { return isWithin(minute, 0, api.MaxMinute) }

func isWithin(x, low, high int) bool { return low <= x && x <= high }
