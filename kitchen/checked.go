package kitchen

import (
	"cmp"
	"slices"

	"bivouac/api"
)

// kitchen is a kitchen that has been checked.
type kitchen struct {
	api.Kitchen
	queue []int // the batches in the order in which they are used
}

// goods is an amount of each good.
type goods [api.MaxGoods]int

// counter tells how many of a group come.
type counter func(day, group int) int

func newKitchen(k api.Kitchen) kitchen {
	queue := make([]int, len(k.Batches))
	for batch := range queue {
		queue[batch] = batch
	}
	slices.SortStableFunc(queue, func(a, b int) int { return cmp.Compare(k.Batches[a].Last, k.Batches[b].Last) })
	return kitchen{Kitchen: k, queue: queue}
}

// low is the counter of the least counts, high that of the greatest ones.
func (k kitchen) low(day, group int) int { return k.Days[day][group].Count.Low }

func (k kitchen) high(day, group int) int { return k.Days[day][group].Count.High }

// last returns the last day.
func (k kitchen) last() int { return len(k.Days) - 1 }

// suits reports whether a dish suits a group that must not eat a set of
// allergens.
func (k kitchen) suits(dish, not int) bool {
	for good, need := range k.Dishes[dish].Needs {
		if need > 0 && k.Allergens[good]&not != 0 {
			return false
		}
	}
	return true
}

// suiting returns all dishes that suit, in ascending order.
func (k kitchen) suiting(not int) []int {
	var dishes []int
	for dish := range k.Dishes {
		if k.suits(dish, not) {
			dishes = append(dishes, dish)
		}
	}
	return dishes
}

// served yields the dishes of a day, each with how many eat it.
func (k kitchen) served(day int, dishes []int, count counter) func(yield func(dish, guests int) bool) {
	return func(yield func(dish, guests int) bool) {
		for group, dish := range dishes {
			if !yield(dish, count(day, group)) {
				return
			}
		}
	}
}

// needs returns what the dishes of a day need together.
func (k kitchen) needs(day int, dishes []int, count counter) goods {
	var sum goods
	for dish, guests := range k.served(day, dishes, count) {
		for good, amount := range k.helping(dish, guests) {
			sum[good] += amount
		}
	}
	return sum
}

// helping returns what a dish needs for some guests.
func (k kitchen) helping(dish, guests int) goods {
	var g goods
	for good, need := range k.Dishes[dish].Needs {
		g[good] = need * guests
	}
	return g
}

// lasts returns how many days menus last.
func (k kitchen) lasts(menus [][]int, count counter) int {
	_, days := newLarder(k).cook(menus, count)
	return days
}

// missing returns how much menus take of one more batch of each good, if it has as
// much as they can need and is used after all others, and as many come as can.
func (k kitchen) missing(menus [][]int) []int {
	const most = api.MaxDays * api.MaxGroups * api.MaxCount * api.MaxNeed
	stocked := k.Kitchen
	stocked.Batches = slices.Clone(k.Batches)
	for good := range k.Allergens {
		stocked.Batches = append(stocked.Batches, api.Batch{Good: good, Amount: most, Last: api.MaxLast})
	}
	l := newLarder(newKitchen(stocked))
	l.cook(menus, k.high)
	var amounts []int
	for _, left := range l.left[len(k.Batches):] {
		amounts = append(amounts, most-left)
	}
	return amounts
}
