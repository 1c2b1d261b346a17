package ropes

import (
	"slices"

	"bivouac/api"
)

// noRope is the rope of a guide without clients.
const noRope = -1

// outing is an outing that has been checked, with the numbers of the ropes that surely
// are fit on its day, the longest one first.
type outing struct {
	api.Outing
	fit []int
}

func newOuting(o api.Outing) outing {
	x := outing{Outing: o}
	for i, r := range x.Ropes {
		if (cord{x.Model, r}).isSurelyFit(x.Day) {
			x.fit = append(x.fit, i)
		}
	}
	slices.SortStableFunc(x.fit, func(a, b int) int { return x.Ropes[b].Length - x.Ropes[a].Length })
	return x
}

// teams yields the guides of the clients, in each way that keeps all rules, and ropes
// of the guides. The guides stand in the same memory each time.
func (x outing) teams(yield func(guides, ropes []int) bool) {
	for guides := range x.led {
		if ropes, ok := x.tie(guides); ok && !yield(guides, ropes) {
			return
		}
	}
}

// led yields the guides of the clients, in each way in which all guides may lead
// theirs, in the same memory each time.
func (x outing) led(yield func(guides []int) bool) {
	x.leadOn(make([]int, 0, len(x.Clients)), yield)
}

// leadOn yields all that begins with the guides of the first clients. It reports
// whether more is wanted.
func (x outing) leadOn(guides []int, yield func(guides []int) bool) bool {
	if len(guides) == len(x.Clients) {
		return yield(guides)
	}
	for guide := range x.Guides {
		more := append(guides, guide)
		if x.mayLead(guide, more) && !x.leadOn(more, yield) {
			return false
		}
	}
	return true
}

// mayLead reports whether a guide may lead those of the first clients whose guide it
// is.
func (x outing) mayLead(guide int, guides []int) bool {
	g, points := x.Guides[guide], 0
	for client, leader := range guides {
		if leader == guide {
			points += x.Clients[client]
		}
	}
	return g.Grade >= x.Grade && g.Until >= x.Day && g.Points >= points
}

// tie gives each guide who has clients a rope, the longer one to whoever has more of
// them: if that is not long enough, nothing is.
func (x outing) tie(guides []int) ([]int, bool) {
	clients := make([]int, len(x.Guides))
	for _, guide := range guides {
		clients[guide]++
	}
	order := slices.Compact(slices.Sorted(slices.Values(guides)))
	slices.SortStableFunc(order, func(a, b int) int { return clients[b] - clients[a] })
	if len(order) > len(x.fit) {
		return nil, false
	}
	ropes := slices.Repeat([]int{noRope}, len(x.Guides))
	for i, guide := range order {
		if x.Ropes[x.fit[i]].Length < x.Spacing*clients[guide] {
			return nil, false
		}
		ropes[guide] = x.fit[i]
	}
	return ropes, true
}

// leaders counts the guides who have clients, by the ropes of all guides.
func leaders(ropes []int) int {
	return len(keep(ropes, func(rope int) bool { return rope != noRope }))
}
