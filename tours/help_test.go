package tours_test

import (
	"math/rand"
	"slices"
	"testing"

	"bivouac/api"
	"bivouac/beds"
	"bivouac/paths"
	"bivouac/tours"
)

func span(low, high int) api.Span { return api.Span{Low: low, High: high} }

// always is the Opens of a path that is never closed.
func always() []api.Span { return []api.Span{span(0, api.MaxMinute)} }

// easy returns a path of the lowest grade that is never closed, without snow.
func easy(from, to, time int) api.Path {
	return api.Path{From: from, To: to, Grade: 1, Time: span(time, time), Opens: always()}
}

func stay(hut, low, high int) api.Stay { return api.Stay{Hut: hut, Nights: span(low, high)} }

func request(id, stamp, people int, stays ...api.Stay) api.Message {
	return api.Message{Kind: api.Request, Id: id, Stamp: stamp, People: people, Stays: stays}
}

func cancel(id int) api.Message { return api.Message{Kind: api.Cancel, Id: id} }

// exampleTour is the tour T of the chapter.
func exampleTour() api.Tour {
	return api.Tour{
		Net: api.Net{Places: 4, Paths: []api.Path{
			{From: 0, To: 1, Grade: 2, Time: span(100, 120), Opens: always()},
			{From: 1, To: 2, Grade: 3, Time: span(60, 90), Snow: span(4, 10), Opens: always()},
			{From: 2, To: 3, Grade: 2, Time: span(60, 60), Opens: []api.Span{span(400, 700)}},
			{From: 0, To: 3, Grade: 2, Time: span(300, 400), Opens: always()},
			{From: 3, To: 0, Grade: 2, Time: span(200, 240), Opens: always()},
		}},
		Party: api.Party{Grade: 3, Pace: span(100, 100)},
		Chain: api.Chain{Huts: []api.Hut{{Beds: 3, Emergency: 2}, {Beds: 2}}, Nights: 4},
		Messages: []api.Message{
			request(5, 10, 2, stay(0, 0, 1), stay(1, 2, 2)),
			request(3, 20, 2, stay(0, 1, 2)),
			request(8, 20, 1, stay(0, 1, 1), stay(1, 2, 3)),
			request(9, 30, 1, stay(0, 1, 3)),
		},
		Places: []int{1, 3},
		People: 1, Strangers: 1,
		Start: 300, Dusk: 700, Late: 900,
		From: 1, To: 0, Id: -1,
		Villages: []int{0},
	}
}

// lineTour returns a tour over some huts in a line, to each of which a day leads
// from the place before it only: from the place 0 over the places 1, 2, .. (the
// huts 0, 1, ..) to the last one.
func lineTour(huts, nights int) api.Tour {
	t := api.Tour{
		Net:    api.Net{Places: huts + 2},
		Party:  api.Party{Grade: 1, Pace: span(100, 100)},
		Chain:  api.Chain{Nights: nights},
		People: 2, Start: 400, Dusk: 500, Late: 600, To: huts + 1, Id: -1,
	}
	for place := range huts + 1 {
		t.Net.Paths = append(t.Net.Paths, easy(place, place+1, 100))
	}
	for hut := range huts {
		t.Places = append(t.Places, hut+1)
		t.Chain.Huts = append(t.Chain.Huts, api.Hut{Beds: 4})
	}
	return t
}

func copyTour(t api.Tour) api.Tour {
	t.Net = closed(t.Net, -1)
	t.Chain.Huts = slices.Clone(t.Chain.Huts)
	t.Messages = copyMessages(t.Messages)
	t.Places, t.Villages = slices.Clone(t.Places), slices.Clone(t.Villages)
	return t
}

func copyMessages(l []api.Message) []api.Message {
	l = slices.Clone(l)
	for i := range l {
		l[i].Stays = slices.Clone(l[i].Stays)
	}
	return l
}

// closed returns a copy of a net in which a path does not open (-1: all do).
func closed(n api.Net, path int) api.Net {
	n.Paths = slices.Clone(n.Paths)
	for i := range n.Paths {
		n.Paths[i].Opens = slices.Clone(n.Paths[i].Opens)
		if i == path {
			n.Paths[i].Opens = nil
		}
	}
	return n
}

// randomPath returns a path between two different places.
func randomPath(r *rand.Rand, places int) api.Path {
	from := r.Intn(places)
	return pathTo(r, from, (from+1+r.Intn(places-1))%places)
}

func pathTo(r *rand.Rand, from, to int) api.Path {
	low := 20 + r.Intn(80)
	path := api.Path{From: from, To: to, Grade: 1 + r.Intn(3), Time: span(low, low+r.Intn(60)), Opens: always()}
	if r.Intn(3) == 0 {
		path.Snow = span(r.Intn(3), 2+r.Intn(3))
	}
	if r.Intn(3) == 0 {
		at := 290 + r.Intn(200)
		path.Opens = []api.Span{span(at, at+r.Intn(60))}
	}
	return path
}

func randomRequest(r *rand.Rand, c api.Chain, id int) api.Message {
	m := request(id, r.Intn(6), 1+r.Intn(3))
	for night := r.Intn(c.Nights); night < c.Nights && len(m.Stays) < api.MaxStays; night += 1 + r.Intn(2) {
		high := min(night+r.Intn(3), c.Nights-1)
		m.Stays = append(m.Stays, stay(r.Intn(len(c.Huts)), night, high))
		night = high
	}
	return m
}

// randomTour returns a tour with few places and nights, so that all itineraries
// can be tried, with about as many beds as are needed, and mostly with some days'
// walk to To.
func randomTour(r *rand.Rand) api.Tour {
	places := 3 + r.Intn(4)
	t := api.Tour{
		Net:    api.Net{Places: places},
		Party:  api.Party{Grade: 2 + r.Intn(2), Pace: span(80+r.Intn(20), 100+r.Intn(20)), Load: r.Intn(15)},
		Chain:  api.Chain{Nights: 1 + r.Intn(4)},
		People: 1 + r.Intn(3), Strangers: r.Intn(4), To: places - 1, Id: -1,
	}
	if r.Intn(5) == 0 {
		t.From, t.To = r.Intn(places), r.Intn(places)
	}
	t.Start = 300 + r.Intn(40)
	t.Dusk = t.Start + 100 + r.Intn(150)
	t.Late = t.Dusk + r.Intn(120)
	for place := range places - 1 {
		path := pathTo(r, place, place+1)
		if r.Intn(5) > 0 {
			path.Grade, path.Opens = 1, always()
		}
		t.Net.Paths = append(t.Net.Paths, path)
	}
	for range r.Intn(8) {
		t.Net.Paths = append(t.Net.Paths, randomPath(r, places))
	}
	for _, place := range r.Perm(places)[:min(places, 2+r.Intn(4))] {
		t.Places = append(t.Places, place)
		t.Chain.Huts = append(t.Chain.Huts, api.Hut{Beds: r.Intn(12), Emergency: r.Intn(4)})
	}
	for place := range places {
		if r.Intn(4) == 0 {
			t.Villages = append(t.Villages, place)
		}
	}
	addMessages(r, &t)
	return t
}

// addMessages adds requests, some of them twice, and a few cancellations; one of
// them may be the party's own booking.
func addMessages(r *rand.Rand, t *api.Tour) {
	for range r.Intn(6) {
		m := randomRequest(r, t.Chain, len(t.Messages))
		t.Messages = append(t.Messages, m)
		if r.Intn(2) == 0 {
			t.Id = m.Id
		}
		if r.Intn(6) == 0 {
			t.Messages = append(t.Messages, m)
		}
		if r.Intn(9) == 0 {
			t.Messages = append(t.Messages, cancel(m.Id))
		}
	}
	r.Shuffle(len(t.Messages), func(i, j int) { t.Messages[i], t.Messages[j] = t.Messages[j], t.Messages[i] })
}

// eachCase calls visit for random tours.
func eachCase(t *testing.T, seed int64, count int, visit func(r *rand.Rand, tour api.Tour)) {
	t.Helper()
	r := rand.New(rand.NewSource(seed))
	for i := range count {
		tour := randomTour(r)
		if e := tours.Check(tour); e != api.OK {
			t.Fatalf("Check of %v: %d", tour, e)
		}
		visit(r, tour)
		if t.Failed() {
			t.Fatalf("case %d: %+v", i, tour)
		}
	}
}

// sureAt returns the sure arrival of a day, or -1 if it does not lead there.
func sureAt(tour api.Tour, from, to int) int {
	sure, _, _ := paths.Arrive(tour.Net, tour.Party, from, tour.Start)
	if sure[to] > tour.Dusk {
		return -1
	}
	return sure[to]
}

// ownBooking reports whether the party has a booking that is accepted, for
// enough people, in a hut in a night.
func ownBooking(tour api.Tour, hut, night int) bool {
	accepted, _ := beds.Accepted(tour.Chain, tour.Messages)
	for _, m := range tour.Messages {
		if m.Kind != api.Request || m.Id != tour.Id || !slices.Contains(accepted, m.Id) || m.People < tour.People {
			continue
		}
		for _, s := range m.Stays {
			if s.Hut == hut && s.Nights.Low <= night && night <= s.Nights.High {
				return true
			}
		}
	}
	return false
}

// bedOf is the bed of a hut in a night by the definition of the chapter.
func bedOf(tour api.Tour, hut, night int) int {
	if ownBooking(tour, hut, night) {
		return 1
	}
	all := tour.People + tour.Strangers
	left, _ := beds.Left(tour.Chain, tour.Messages, hut, night)
	if all <= left {
		return 2
	}
	if all <= left+tour.Chain.Huts[hut].Emergency {
		return 3
	}
	return 0
}

// broken returns the first day on which an itinerary is not one that leads where
// it should to where one may sleep, by the definition; or -1.
func broken(tour api.Tour, huts []int, maySleep func(hut, night int) bool) int {
	place := tour.From
	for night, hut := range huts {
		if sureAt(tour, place, tour.Places[hut]) < 0 || !maySleep(hut, night) {
			return night
		}
		place = tour.Places[hut]
	}
	if sureAt(tour, place, tour.To) < 0 {
		return len(huts)
	}
	return -1
}

// unsound returns the first day on which an itinerary is not sound, or -1.
func unsound(tour api.Tour, huts []int) int {
	return broken(tour, huts, func(hut, night int) bool { return bedOf(tour, hut, night) != 0 })
}

// eachItinerary calls visit for all itineraries, those with fewer nights first,
// then those with the lower hut at the first difference.
func eachItinerary(tour api.Tour, visit func(huts []int)) {
	for all := [][]int{nil}; len(all[0]) <= tour.Chain.Nights; {
		var longer [][]int
		for _, huts := range all {
			visit(huts)
			for hut := range tour.Chain.Huts {
				longer = append(longer, append(slices.Clone(huts), hut))
			}
		}
		all = longer
	}
}

// soundOnes returns all sound itineraries in that order.
func soundOnes(tour api.Tour) [][]int {
	var sound [][]int
	eachItinerary(tour, func(huts []int) {
		if unsound(tour, huts) < 0 {
			sound = append(sound, huts)
		}
	})
	return sound
}

// trapsOf returns the traps by the definition, from all itineraries.
func trapsOf(tour api.Tour) [][2]int {
	occurs, sound := map[[2]int]bool{}, map[[2]int]bool{}
	eachItinerary(tour, func(huts []int) {
		first := unsound(tour, huts)
		for night, hut := range huts {
			state := [2]int{hut, night}
			occurs[state] = occurs[state] || first < 0 || first > night
			sound[state] = sound[state] || first < 0
		}
	})
	var traps [][2]int
	for night := range tour.Chain.Nights {
		for hut := range tour.Chain.Huts {
			if state := [2]int{hut, night}; occurs[state] && !sound[state] {
				traps = append(traps, state)
			}
		}
	}
	return traps
}

// plan returns what Plan returns, and whether there is a sound itinerary.
func plan(t *testing.T, tour api.Tour) ([]int, bool) {
	t.Helper()
	huts, e := tours.Plan(tour)
	if e != api.OK && e != api.ErrNone {
		t.Fatalf("Plan of %+v: %d", tour, e)
	}
	return huts, e == api.OK
}

// notLonger reports whether Plan of a tour is not longer than that of another one.
func notLonger(t *testing.T, a, b api.Tour) bool {
	t.Helper()
	huts, ok := plan(t, a)
	others, possible := plan(t, b)
	return !possible || ok && len(huts) <= len(others)
}
