package missing

import (
	"slices"

	"bivouac/api"
)

// tracks is where a missed party can have arrived, by what it did until then.
type tracks struct {
	hunt
	before map[arrival]api.Pass // a pass that can come before each arrival
	// What has been followed already: the minutes up to which the party can leave each
	// place, and arrive by each path. A later stay or walk does not begin or end sooner
	// than an earlier one, so it adds only minutes after these.
	left, arrived []int
}

// explore finds out where the party can have arrived.
func (h hunt) explore() tracks {
	t := tracks{
		hunt: h, before: map[arrival]api.Pass{},
		left: slices.Repeat([]int{-1}, h.Places), arrived: slices.Repeat([]int{-1}, len(h.Paths)),
	}
	t.before[t.first()] = api.Pass{}
	// Each path takes a minute or more, so what is added comes later in this loop.
	for a := range t.arrivals {
		t.follow(a)
	}
	return t
}

// first is where and when the party set out. There is no pass before that.
func (h hunt) first() arrival { return arrival{h.Place, h.Start} }

// arrivals yields all arrivals, ordered by the minute, then by the place.
func (t tracks) arrivals(yield func(arrival) bool) {
	for minute := range minutes(t.Start, t.Now) {
		for place := range t.Places {
			a := arrival{place, minute}
			if _, ok := t.before[a]; ok && !yield(a) {
				return
			}
		}
	}
}

// follow adds the arrivals to which the party can go on from an arrival.
func (t tracks) follow(a arrival) {
	for leave := range t.stay(a, t.left[a.place]) {
		t.left[a.place] = leave
		for path := range t.leading(a.place) {
			for minute := range t.walk(path, leave, t.arrived[path]) {
				t.arrived[path] = minute
				t.add(arrival{t.Paths[path].To, minute}, passOf(a, leave, path))
			}
		}
	}
}

// add adds an arrival unless it is known.
func (t tracks) add(a arrival, before api.Pass) {
	if _, ok := t.before[a]; !ok {
		t.before[a] = before
	}
}

func passOf(a arrival, leave, path int) api.Pass {
	return api.Pass{Place: a.place, Arrive: a.minute, Leave: leave, Path: path}
}

// ends yields last passes of possible traces, among them one for each place at which
// the party can be now, and one for each path on which it can be. Whoever leaves last
// is on a path for the shortest time, and so agrees with the most clues.
func (t tracks) ends(yield func(api.Pass) bool) {
	for a := range t.arrivals {
		if t.until(a.place, a.minute) == t.Now && !yield(passOf(a, t.Now, noPath)) {
			return
		}
		leave := min(t.latest(a), t.Now-1)
		if leave < a.minute || t.until(noPlace, leave+1) < t.Now {
			continue
		}
		for path := range t.leading(a.place) {
			if !yield(passOf(a, leave, path)) {
				return
			}
		}
	}
}

// where returns the sets of the places and paths with which traces end.
func (t tracks) where() (places, paths int) {
	for last := range t.ends {
		if last.Path == noPath {
			places |= 1 << last.Place
		} else {
			paths |= 1 << last.Path
		}
	}
	return places, paths
}

// trace returns a trace with a last pass.
func (t tracks) trace(last api.Pass) []api.Pass {
	passes := []api.Pass{last}
	for a := arrivalOf(last); a != t.first(); a = arrivalOf(passes[len(passes)-1]) {
		passes = append(passes, t.before[a])
	}
	slices.Reverse(passes)
	return passes
}

func arrivalOf(pass api.Pass) arrival { return arrival{pass.Place, pass.Arrive} }
