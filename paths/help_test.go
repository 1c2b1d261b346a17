package paths_test

import (
	"math/rand"
	"slices"
	"testing"

	"bivouac/api"
	"bivouac/paths"
)

func span(low, high int) api.Span { return api.Span{Low: low, High: high} }

// always is the Opens of a path that is never closed.
func always() []api.Span { return []api.Span{span(0, api.MaxMinute)} }

// easy returns a path of the lowest grade that is never closed, without snow.
func easy(from, to, low, high int) api.Path {
	return api.Path{From: from, To: to, Grade: 1, Time: span(low, high), Opens: always()}
}

// opens returns a path that opens only in some spans.
func opens(path api.Path, spans ...api.Span) api.Path {
	path.Opens = spans
	return path
}

// exampleNet is the net N of the chapter.
func exampleNet() api.Net {
	return api.Net{Places: 4, Paths: []api.Path{
		{From: 0, To: 1, Grade: 2, Time: span(100, 120), Opens: always()},
		{From: 1, To: 2, Grade: 3, Time: span(60, 90), Snow: span(4, 10), Opens: always()},
		{From: 2, To: 3, Grade: 2, Time: span(60, 60), Opens: []api.Span{span(400, 700)}},
		{From: 0, To: 3, Grade: 2, Time: span(300, 400), Opens: always()},
		{From: 3, To: 0, Grade: 2, Time: span(200, 240), Opens: always()},
	}}
}

// exampleParty is the party P of the chapter.
func exampleParty() api.Party { return api.Party{Grade: 3, Pace: span(100, 100)} }

func copyNet(n api.Net) api.Net {
	n.Paths = slices.Clone(n.Paths)
	for i := range n.Paths {
		n.Paths[i].Opens = slices.Clone(n.Paths[i].Opens)
	}
	return n
}

func randomSpan(r *rand.Rand, low, high int) api.Span {
	a, b := low+r.Intn(high-low+1), low+r.Intn(high-low+1)
	return span(min(a, b), max(a, b))
}

func randomPath(r *rand.Rand, places int) api.Path {
	from := r.Intn(places)
	to := (from + 1 + r.Intn(places-1)) % places
	path := api.Path{From: from, To: to, Grade: 1 + r.Intn(3), Time: randomSpan(r, 1, 20), Snow: randomSpan(r, 0, 4)}
	for range r.Intn(4) {
		at := r.Intn(120)
		path.Opens = append(path.Opens, span(at, at+r.Intn(40)))
	}
	if r.Intn(3) == 0 {
		path.Opens = append(path.Opens, span(r.Intn(60), api.MaxMinute))
	}
	return path
}

// randomNet returns a net whose minutes are few, so that routes often arrive at
// the same one.
func randomNet(r *rand.Rand) api.Net {
	n := api.Net{Places: 2 + r.Intn(4)}
	for range r.Intn(9) {
		n.Paths = append(n.Paths, randomPath(r, n.Places))
	}
	return n
}

// evenNet returns a net in which many routes have equal arrivals: parties wait
// on most of them for the same minutes.
func evenNet(r *rand.Rand) api.Net {
	n := api.Net{Places: 3 + r.Intn(2)}
	for range 4 + r.Intn(6) {
		path := randomPath(r, n.Places)
		path.Grade, path.Time, path.Snow = 1, span(1, 1+r.Intn(2)), span(0, 0)
		if r.Intn(2) == 0 {
			path.Opens = nil
			for range 1 + r.Intn(3) {
				at := 10 * r.Intn(5)
				path.Opens = append(path.Opens, span(at, at+r.Intn(2)))
			}
		}
		n.Paths = append(n.Paths, path)
	}
	return n
}

func randomParty(r *rand.Rand) api.Party {
	return api.Party{Grade: 1 + r.Intn(3), Pace: randomSpan(r, 50, 150), Load: r.Intn(api.MaxLoad + 1)}
}

// minutes is the time of a path by the formula of the chapter, rounded up by hand.
func minutes(t, p, s, load int) int {
	product := t * p * (100 + 5*s + load)
	if product%10000 != 0 {
		return product/10000 + 1
	}
	return product / 10000
}

func slowest(path api.Path, p api.Party) int {
	return minutes(path.Time.High, p.Pace.High, path.Snow.High, p.Load)
}

func fastest(path api.Path, p api.Party) int {
	return minutes(path.Time.Low, p.Pace.Low, path.Snow.Low, p.Load)
}

func isOpen(path api.Path, minute int) bool {
	return slices.ContainsFunc(path.Opens, func(s api.Span) bool { return s.Low <= minute && minute <= s.High })
}

// follow walks a route minute by minute; time tells how long a path takes.
// It returns -1 if the route cannot be walked, or arrives after MaxMinute.
func follow(n api.Net, route []int, start int, time func(path api.Path) int) int {
	minute := start
	for _, i := range route {
		for minute <= api.MaxMinute && !isOpen(n.Paths[i], minute) {
			minute++
		}
		if minute > api.MaxMinute {
			return -1
		}
		minute += time(n.Paths[i])
	}
	if minute > api.MaxMinute {
		return -1
	}
	return minute
}

func followSurely(n api.Net, p api.Party, route []int, start int) int {
	return follow(n, route, start, func(path api.Path) int { return slowest(path, p) })
}

// eachRoute calls visit for each route that begins at a place, and has at most
// as many paths as told; also for those that come to a place again.
func eachRoute(n api.Net, p api.Party, from, most int, visit func(route []int, to int)) {
	var extend func(route []int, at int)
	extend = func(route []int, at int) {
		visit(route, at)
		if len(route) == most {
			return
		}
		for i, path := range n.Paths {
			if path.From == at && path.Grade <= p.Grade {
				extend(append(slices.Clone(route), i), path.To)
			}
		}
	}
	extend(nil, from)
}

// better reports whether a route comes before another one: by the arrival, then
// by the number of paths, then by the first different path.
func better(a []int, arrivalA int, b []int, arrivalB int) bool {
	if arrivalA != arrivalB {
		return arrivalA < arrivalB
	}
	if len(a) != len(b) {
		return len(a) < len(b)
	}
	return slices.Compare(a, b) < 0
}

// reachable returns the first minute at each place (-1: none) of a party that
// may wait wherever and as long as it wants.
func reachable(n api.Net, p api.Party, from, start int, time func(api.Path, api.Party) int) []int {
	var at [api.MaxMinute + 1][api.MaxPlaces]bool
	at[start][from] = true
	first := slices.Repeat([]int{-1}, n.Places)
	for minute := start; minute <= api.MaxMinute; minute++ {
		for place := range n.Places {
			if !at[minute][place] {
				continue
			}
			if first[place] < 0 {
				first[place] = minute
			}
			if minute < api.MaxMinute {
				at[minute+1][place] = true
			}
			for _, path := range n.Paths {
				end := minute + time(path, p)
				if path.From == place && path.Grade <= p.Grade && isOpen(path, minute) && end <= api.MaxMinute {
					at[end][path.To] = true
				}
			}
		}
	}
	return first
}

// sureAt returns the sure arrival at a place as Arrive gives it.
func sureAt(t *testing.T, n api.Net, p api.Party, from, start, to int) int {
	t.Helper()
	sure, _, e := paths.Arrive(n, p, from, start)
	if e != api.OK {
		t.Fatalf("Arrive of %v, %v from %d at %d: %d", n, p, from, start, e)
	}
	return sure[to]
}

// keeps reports whether an arrival (-1: none) is not after a deadline.
func keeps(arrival, deadline int) bool { return arrival >= 0 && arrival <= deadline }

// notLater reports whether no arrival of a is later than that of b (-1: none).
func notLater(a, b []int) bool {
	for i := range a {
		if b[i] >= 0 && !keeps(a[i], b[i]) {
			return false
		}
	}
	return true
}
