package paths

import (
	"iter"
	"slices"

	"bivouac/api"
)

// never stands for an arrival that counts as none. It is later than every
// minute, so that the lower of two arrivals is the better one, and no deadline
// is kept by it.
const never = api.MaxMinute + 1

// walk is a net that has been checked, and a party that walks in it.
type walk struct {
	api.Net
	party api.Party
}

// end chooses the end of a span of times with which arrivals are computed.
type end func(api.Span) int

func sureEnd(s api.Span) int { return s.High }

func bestEnd(s api.Span) int { return s.Low }

// begin checks the arguments that most functions have, in the order of the
// errors: the net, the party, and the places and minutes together.
func begin(n api.Net, p api.Party, places, minutes []int) (walk, api.Errno) {
	if !validNet(n) {
		return walk{}, api.ErrNet
	}
	if !validParty(p) {
		return walk{}, api.ErrParty
	}
	noPlace := func(place int) bool { return !isPlace(n, place) }
	noMinute := func(minute int) bool { return minute < 0 || minute > api.MaxMinute }
	if slices.ContainsFunc(places, noPlace) || slices.ContainsFunc(minutes, noMinute) {
		return walk{}, api.ErrArg
	}
	return walk{Net: n, party: p}, api.OK
}

func (w walk) can(path api.Path) bool { return path.Grade <= w.party.Grade }

// walkable yields the paths that the party can walk, with their numbers.
func (w walk) walkable() iter.Seq2[int, api.Path] {
	return func(yield func(int, api.Path) bool) {
		for i, path := range w.Paths {
			if w.can(path) && !yield(i, path) {
				return
			}
		}
	}
}

// without returns the walk with a path closed. The path stays in the net, so
// that the others keep their numbers.
func (w walk) without(path int) walk {
	w.Paths = slices.Clone(w.Paths)
	w.Paths[path].Opens = nil
	return w
}

// time returns the span of the time that the party needs for a path.
func (w walk) time(path api.Path) api.Span {
	return api.Span{
		Low:  w.minutes(path.Time.Low, w.party.Pace.Low, path.Snow.Low),
		High: w.minutes(path.Time.High, w.party.Pace.High, path.Snow.High),
	}
}

func (w walk) minutes(time, pace, snow int) int {
	const whole = 100 * 100 // the pace and the burden are percentages
	return (time*pace*(100+5*snow+w.party.Load) + whole - 1) / whole
}

// entry returns the first minute at which a path opens, not before a minute.
// The spans of Opens may overlap and stand in any order.
func entry(path api.Path, minute int) int {
	first := never
	for _, opens := range path.Opens {
		if minute <= opens.High {
			first = min(first, max(minute, opens.Low))
		}
	}
	return first
}

// arrival returns when a party is at the end of a path that is at its
// beginning at a minute.
func (w walk) arrival(path api.Path, minute int, of end) int {
	return min(entry(path, minute)+of(w.time(path)), never)
}

// arrivals returns the lowest arrival at each place on routes of at most most
// paths. Whoever is at the beginning of a path sooner is at its end not later,
// so the lowest arrival at a place is all that its further paths depend on.
func (w walk) arrivals(from, start, most int, of end) []int {
	lowest := slices.Repeat([]int{never}, w.Places)
	lowest[from] = start
	for range most {
		lowest = w.pathMore(lowest, of)
	}
	return lowest
}

// pathMore returns the lowest arrivals if the routes may have one path more.
// It reads the old arrivals only, because routes must not grow by two.
func (w walk) pathMore(lowest []int, of end) []int {
	next := slices.Clone(lowest)
	for _, path := range w.walkable() {
		next[path.To] = min(next[path.To], w.arrival(path, lowest[path.From], of))
	}
	return next
}

// longest returns how many paths are enough for the lowest arrivals: a route
// that comes to a place again arrives not sooner than without the detour.
func (w walk) longest() int { return w.Places - 1 }

// sure returns the sure arrival at each place.
func (w walk) sure(from, start int) []int {
	return w.arrivals(from, start, w.longest(), sureEnd)
}

// best returns the best arrival at each place.
func (w walk) best(from, start int) []int {
	return w.arrivals(from, start, w.longest(), bestEnd)
}

// route returns, of the routes whose sure arrival at a place is not after a
// deadline, one with the fewest paths, and of these the one with the lower path
// at the first difference. There must be such a route. It may come to a place
// on its way later than the sure arrival there, if it has to wait anyway.
func (w walk) route(from, start, to, deadline int) []int {
	late := func(place, minute, most int) bool {
		return w.arrivals(place, minute, most, sureEnd)[to] > deadline
	}
	left := 0
	for left < w.longest() && late(from, start, left) {
		left++
	}
	route := make([]int, 0, left)
	place, minute := from, start
	for ; left > 0; left-- {
		for i, path := range w.walkable() {
			next := w.arrival(path, minute, sureEnd)
			if path.From == place && !late(path.To, next, left-1) {
				route = append(route, i)
				place, minute = path.To, next
				break
			}
		}
	}
	return route
}

// canWalk reports whether a sequence of paths is a route of the party that
// begins at a place, whatever the minutes are.
func (w walk) canWalk(route []int, from int) bool {
	if len(route) > api.MaxRoute {
		return false
	}
	place := from
	for _, i := range route {
		if !isPath(w.Net, i) || w.Paths[i].From != place || !w.can(w.Paths[i]) {
			return false
		}
		place = w.Paths[i].To
	}
	return true
}
