// Package paths is layer 1: times and arrivals on mountain paths, whatever
// time within its span each path takes.
package paths

import (
	"sort"

	"bivouac/api"
)

// Check returns ErrNet unless a net is valid.
func Check(n api.Net) api.Errno {
	if !validNet(n) {
		return api.ErrNet
	}
	return api.OK
}

// Walk returns the span of the time of a path for a party. ErrNone if the
// party cannot walk the path.
func Walk(n api.Net, p api.Party, path int) (api.Span, api.Errno) {
	w, e := begin(n, p, nil, nil)
	if e != api.OK {
		return api.Span{}, e
	}
	if !isPath(n, path) {
		return api.Span{}, api.ErrArg
	}
	if !w.can(w.Paths[path]) {
		return api.Span{}, api.ErrNone
	}
	return w.time(w.Paths[path]), api.OK
}

// Arrive returns, for a party that is at a place at a minute, the sure arrival
// and the best arrival at each place, or -1 if there is none.
func Arrive(n api.Net, p api.Party, from, start int) (sure, best []int, e api.Errno) {
	w, e := begin(n, p, []int{from}, []int{start})
	if e != api.OK {
		return nil, nil, e
	}
	return orNone(w.sure(from, start)), orNone(w.best(from, start)), api.OK
}

// Route returns, of the routes to a place with the lowest sure arrival, the one
// with the fewest paths, of several the one with the lower path at the first
// position at which they differ; and this arrival. ErrNone if there is no route
// with a sure arrival.
func Route(n api.Net, p api.Party, from, start, to int) (route []int, arrival int, e api.Errno) {
	w, e := begin(n, p, []int{from, to}, []int{start})
	if e != api.OK {
		return nil, 0, e
	}
	arrival = w.sure(from, start)[to]
	if arrival == never {
		return nil, 0, api.ErrNone
	}
	return w.route(from, start, to, arrival), arrival, api.OK
}

// Latest returns the greatest minute such that a party that starts at it has a
// sure arrival at a place that is not after the deadline. ErrNone if there is
// none.
func Latest(n api.Net, p api.Party, from, to, deadline int) (int, api.Errno) {
	w, e := begin(n, p, []int{from, to}, []int{deadline})
	if e != api.OK {
		return 0, e
	}
	// Who starts later does not arrive sooner, and nobody arrives before the start.
	late := func(start int) bool { return w.sure(from, start)[to] > deadline }
	latest := sort.Search(deadline+1, late) - 1
	if latest < 0 {
		return 0, api.ErrNone
	}
	return latest, api.OK
}

// Vital returns, in ascending order, all paths without any one of which the
// sure arrival at a place is after the deadline, or there is none. ErrNone if
// that is so with all paths, too.
func Vital(n api.Net, p api.Party, from, start, to, deadline int) ([]int, api.Errno) {
	w, e := begin(n, p, []int{from, to}, []int{start, deadline})
	if e != api.OK {
		return nil, e
	}
	late := func(x walk) bool { return x.sure(from, start)[to] > deadline }
	if late(w) {
		return nil, api.ErrNone
	}
	var vital []int
	for path := range w.walkable() {
		if late(w.without(path)) {
			vital = append(vital, path)
		}
	}
	return vital, api.OK
}

// Within returns the places at which the sure arrival is not after the
// deadline, and those at which the best arrival is not, in ascending order.
func Within(n api.Net, p api.Party, from, start, deadline int) (sure, may []int, e api.Errno) {
	w, e := begin(n, p, []int{from}, []int{start, deadline})
	if e != api.OK {
		return nil, nil, e
	}
	return reached(w.sure(from, start), deadline), reached(w.best(from, start), deadline), api.OK
}

// Turn returns the greatest number k such that after each of the first 0, 1,
// .., k paths of a route, at the sure arrival of these paths, the party has a
// sure arrival at home that is not after the deadline; -1 if that is not so
// even at the start. Only the paths up to where the route can be walked count.
func Turn(n api.Net, p api.Party, route []int, from, start, home, deadline int) (int, api.Errno) {
	w, e := begin(n, p, []int{from, home}, []int{start, deadline})
	if e != api.OK {
		return 0, e
	}
	if !w.canWalk(route, from) {
		return 0, api.ErrRoute
	}
	// Also late if the minute is never: then the route cannot be walked up to the place.
	late := func(place, minute int) bool { return w.sure(place, minute)[home] > deadline }
	if late(from, start) {
		return -1, api.OK
	}
	minute := start
	for k, i := range route {
		minute = w.arrival(w.Paths[i], minute, sureEnd)
		if late(w.Paths[i].To, minute) {
			return k, api.OK
		}
	}
	return len(route), api.OK
}

// orNone returns arrivals, with -1 for those that count as none.
func orNone(arrivals []int) []int {
	for i, arrival := range arrivals {
		if arrival == never {
			arrivals[i] = -1
		}
	}
	return arrivals
}

// reached returns the places at which the arrival is not after a deadline.
func reached(arrivals []int, deadline int) []int {
	var places []int
	for place, arrival := range arrivals {
		if arrival <= deadline {
			places = append(places, place)
		}
	}
	return places
}
