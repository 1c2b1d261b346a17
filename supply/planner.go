package supply

import (
	"cmp"
	"slices"

	"bivouac/api"
)

// noPlan is more than all trips together can cost.
const noPlan = api.MaxTrips*api.MaxPrice + 1

// flight is carriers that go in the same hour, in ascending order, what they
// bring together, and what this costs.
type flight struct {
	carriers   []int
	load, cost int
}

// state is what trips before an hour have brought.
type state struct{ hour, brought int }

// way is the cheapest way to go on from a state with a plan: the flight that it
// begins with, and what all its trips cost; that is noPlan if there is no way.
type way struct {
	flight
	total int
}

// planner knows the ways from all states to which trips can lead that suffice and
// fit so far.
type planner struct {
	hut
	flights [][]flight // by hours; after the last one there are none
	known   map[state]way
}

func newPlanner(h hut) planner {
	p := planner{hut: h, flights: make([][]flight, h.hours+1), known: map[state]way{}}
	for hour := range h.hours {
		p.flights[hour] = h.flightsIn(hour)
	}
	p.explore(state{})
	return p
}

// flightsIn returns all flights that can be made in an hour, first the one of no
// carrier.
func (h hut) flightsIn(hour int) []flight {
	flights := []flight{{}}
	for carrier, c := range h.Carriers {
		load := h.loads[carrier][hour]
		if load == 0 {
			continue
		}
		for _, f := range flights {
			flights = append(flights, f.with(carrier, load, c.Cost))
		}
	}
	return flights
}

// with returns a flight with one more carrier. The carriers of a flight that is
// extended twice must not share the memory behind them.
func (f flight) with(carrier, load, cost int) flight {
	count := len(f.carriers)
	return flight{
		carriers: append(f.carriers[:count:count], carrier),
		load:     f.load + load,
		cost:     f.cost + cost,
	}
}

// explore returns the way from a state. It learns the ways from all states that
// can follow, also from those that cost too much, as a proof needs each of them.
func (p planner) explore(s state) way {
	if w, ok := p.known[s]; ok {
		return w
	}
	best := way{total: noPlan}
	if s.hour == p.hours {
		best.total = 0
	}
	for f, next := range p.following(s) {
		if total := f.cost + p.explore(next).total; total < best.total {
			best = way{flight: f, total: total}
		}
	}
	p.known[s] = best
	return best
}

// following yields the flights that can be made from a state, each with the state
// to which it leads, if the trips suffice and fit with it.
func (p planner) following(s state) func(yield func(f flight, next state) bool) {
	return func(yield func(f flight, next state) bool) {
		for _, f := range p.flights[s.hour] {
			next := state{hour: s.hour + 1, brought: s.brought + f.load}
			if p.holds(s.hour, next.brought) && !yield(f, next) {
				return
			}
		}
	}
}

// cost returns what the cheapest plan costs, or noPlan.
func (p planner) cost() int { return p.known[state{}].total }

// trips returns the cheapest plan, if there is one.
func (p planner) trips() []api.Trip {
	var trips []api.Trip
	brought := 0
	for hour := range p.hours {
		w := p.known[state{hour: hour, brought: brought}]
		for _, carrier := range w.carriers {
			trips = append(trips, api.Trip{Hour: hour, Carrier: carrier})
		}
		brought += w.load
	}
	return trips
}

// bounds returns a proof of the cost: what the ways from all states cost. No
// bound has to say more than the cost itself, and so neither have those of states
// from which there is no way, although any cost would be true of them.
func (p planner) bounds() []api.Bound {
	var bounds []api.Bound
	for s, w := range p.known {
		bounds = append(bounds, api.Bound{Hour: s.hour, Brought: s.brought, Cost: min(w.total, p.cost())})
	}
	slices.SortFunc(bounds, compareBounds)
	return bounds
}

func compareBounds(a, b api.Bound) int {
	return cmp.Or(cmp.Compare(a.Hour, b.Hour), cmp.Compare(a.Brought, b.Brought))
}
