package missing

import (
	"slices"

	"bivouac/api"
)

// search is spots that are searched by rescue parties in a country.
type search struct {
	country
	spots   []api.Spot
	between [][]int // the ways
}

// errand is what a team has to do from some time on: it is at a place, and a set of
// spots is left.
type errand struct{ at, left int }

// all is the set of all spots.
func (s search) all() int { return 1<<len(s.spots) - 1 }

// weight returns the sum of the weights of a set of spots.
func (s search) weight(set int) int {
	sum := 0
	for spot := range members(set) {
		sum += s.spots[spot].Weight
	}
	return sum
}

// after returns the errand that remains when a spot is done.
func (s search) after(x errand, spot int) errand {
	return errand{at: s.spots[spot].Place, left: x.left &^ (1 << spot)}
}

// planner looks for plans with the least cost.
type planner struct {
	search
	price func(left int) int // of each minute while a set of spots is left
	known map[errand]int
}

// newPlanner returns a planner. The cost of plans is their minutes, each times the
// weights that wait meanwhile; so it does not depend on what has been done before.
func newPlanner(s search, price func(left int) int) planner {
	return planner{search: s, price: price, known: map[errand]int{}}
}

// cost returns the least cost of an errand; endless if some spot is out of reach.
func (p planner) cost(x errand) int {
	if x.left == 0 {
		return 0
	}
	if cost, ok := p.known[x]; ok {
		return cost
	}
	least := endless
	for spot := range members(x.left) {
		least = min(least, p.costBy(x, spot))
	}
	p.known[x] = least
	return least
}

// costBy returns the least cost of an errand that begins with a spot.
func (p planner) costBy(x errand, spot int) int {
	way := p.between[x.at][p.spots[spot].Place]
	rest := p.cost(p.after(x, spot))
	if way == endless || rest == endless {
		return endless
	}
	return (way+p.spots[spot].Search)*p.price(x.left) + rest
}

// order returns the first plan with the least cost of an errand, if there is a plan.
func (p planner) order(x errand) []int {
	var order []int
	for x.left != 0 {
		spot := p.next(x)
		order = append(order, spot)
		x = p.after(x, spot)
	}
	return order
}

// next returns the lowest spot with which a plan with the least cost begins.
func (p planner) next(x errand) int {
	left := slices.Collect(members(x.left))
	best := func(spot int) bool { return p.costBy(x, spot) == p.cost(x) }
	return left[slices.IndexFunc(left, best)]
}

// share shares all spots out among the teams of some bases, with the least cost of
// their plans together. The cost is endless if there are none.
func (p planner) share(bases []int) ([]errand, int) {
	var teams, best []errand
	for _, base := range bases {
		teams = append(teams, errand{at: base})
	}
	least := endless
	var give func(spot int)
	give = func(spot int) {
		if spot == len(p.spots) {
			if cost := p.sum(teams); cost < least {
				least, best = cost, slices.Clone(teams)
			}
			return
		}
		for team := range teams {
			teams[team].left |= 1 << spot
			give(spot + 1)
			teams[team].left &^= 1 << spot
		}
	}
	give(0)
	return best, least
}

// sum returns the cost of some errands together.
func (p planner) sum(errands []errand) int {
	sum := 0
	for _, x := range errands {
		sum += p.cost(x)
	}
	return sum
}
