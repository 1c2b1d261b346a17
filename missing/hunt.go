package missing

import (
	"iter"

	"bivouac/api"
)

// noPath is the path of a pass in which a party does not leave its place.
const noPath = -1

// noPlace is where a party is that is on a path.
const noPlace = -1

// hunt is a missed party that has been checked, in its country.
type hunt struct {
	country
	api.Missed
}

// arrival is that the party came to a place at a minute.
type arrival struct{ place, minute int }

// agrees reports whether a party at a place, or at no place, at the minute of a clue
// agrees with it.
func agrees(c api.Clue, place int) bool {
	among := place != noPlace && c.Places>>place&1 == 1
	return among == c.Seen
}

// until returns the last minute to which the party can be at a place, or at no place,
// from a minute on: then there is a clue with which that does not agree, or it is
// now. It is before the minute itself if the party cannot even be there then.
func (h hunt) until(place, minute int) int {
	last := h.Now
	for _, c := range h.Clues {
		if c.Minute >= minute && !agrees(c, place) {
			last = min(last, c.Minute-1)
		}
	}
	return last
}

// latest returns the last minute at which the party can leave a place. It is before
// the arrival if it cannot have been there.
func (h hunt) latest(a arrival) int { return min(a.minute+h.Rest, h.until(a.place, a.minute)) }

// stay yields the minutes after some minute at which the party can leave a place.
func (h hunt) stay(a arrival, after int) iter.Seq[int] {
	return minutes(max(a.minute, after+1), h.latest(a))
}

// walk yields the minutes after some minute at which the party can be at the end of
// a path. At the minute of a clue with which a party on a path does not agree it can
// just arrive.
func (h hunt) walk(path, leave, after int) iter.Seq[int] {
	time := h.times[path]
	return minutes(max(leave+time.Low, after+1), min(leave+time.High, h.until(noPlace, leave+1)+1, h.Now))
}

// minutes yields the minutes from one to another one.
func minutes(low, high int) iter.Seq[int] {
	return func(yield func(int) bool) {
		for minute := low; minute <= high; minute++ {
			if !yield(minute) {
				return
			}
		}
	}
}

// with returns the hunt with just a set of its clues.
func (h hunt) with(set int) hunt {
	var clues []api.Clue
	for i := range members(set) {
		clues = append(clues, h.Clues[i])
	}
	h.Clues = clues
	return h
}

// isPossible reports whether some trace is possible.
func (h hunt) isPossible() bool {
	for range h.explore().ends {
		return true
	}
	return false
}

// conflict returns a set of clues that contradict each other, if all clues do.
func (h hunt) conflict() int {
	kept := 1<<len(h.Clues) - 1
	for i := range h.Clues {
		if fewer := kept &^ (1 << i); !h.with(fewer).isPossible() {
			kept = fewer
		}
	}
	return kept
}
