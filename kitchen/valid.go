package kitchen

import (
	"slices"

	"bivouac/api"
)

// allAllergens is the set of all allergens.
const allAllergens = 255

// begin checks a kitchen.
func begin(k api.Kitchen) (kitchen, api.Errno) {
	if e := Check(k); e != api.OK {
		return kitchen{}, e
	}
	return newKitchen(k), api.OK
}

// beginMenus checks a kitchen, and then menus of it.
func beginMenus(k api.Kitchen, menus [][]int) (kitchen, api.Errno) {
	c, e := begin(k)
	if e == api.OK && !c.areMenus(menus) {
		return kitchen{}, api.ErrMenus
	}
	return c, e
}

func unless(ok bool, e api.Errno) api.Errno {
	if ok {
		return api.OK
	}
	return e
}

func isKitchen(k api.Kitchen) bool {
	isNeed := func(need int) bool { return isWithin(need, 0, api.MaxNeed) }
	isDish := func(d api.Dish) bool { return are(d.Needs, len(k.Allergens), len(k.Allergens), isNeed) }
	isBatch := func(b api.Batch) bool {
		return isWithin(b.Good, 0, len(k.Allergens)-1) && isWithin(b.Amount, 0, api.MaxGrams) && isWithin(b.Last, 0, api.MaxLast)
	}
	isDay := func(groups []api.Diners) bool { return are(groups, 0, api.MaxGroups, isGroup) }
	return are(k.Allergens, 1, api.MaxGoods, isSet) && are(k.Batches, 0, api.MaxBatches, isBatch) &&
		are(k.Dishes, 1, api.MaxDishes, isDish) && are(k.Days, 1, api.MaxDays, isDay)
}

func isGroup(d api.Diners) bool {
	return isSet(d.Not) && isWithin(d.Count.High, 0, api.MaxCount) && isWithin(d.Count.Low, 0, d.Count.High)
}

// isSet reports whether a number is a set of allergens.
func isSet(x int) bool { return isWithin(x, 0, allAllergens) }

func (k kitchen) areMenus(menus [][]int) bool {
	return k.areRows(menus, func(group api.Diners, dish int) bool {
		return isWithin(dish, 0, len(k.Dishes)-1) && k.suits(dish, group.Not)
	})
}

func (k kitchen) areCounts(counts [][]int) bool {
	return k.areRows(counts, func(group api.Diners, count int) bool {
		return isWithin(count, group.Count.Low, group.Count.High)
	})
}

// areRows reports whether rows have for each day and group a number, and each of
// these is as it must be for its group.
func (k kitchen) areRows(rows [][]int, is func(group api.Diners, x int) bool) bool {
	return slices.EqualFunc(k.Days, rows, func(groups []api.Diners, row []int) bool {
		return slices.EqualFunc(groups, row, is)
	})
}

// are reports whether a slice has some number of elements, from low to high, and
// each of them is as it must be.
func are[T any](list []T, low, high int, is func(T) bool) bool {
	if !isWithin(len(list), low, high) {
		return false
	}
	for _, x := range list {
		if !is(x) {
			return false
		}
	}
	return true
}

func isWithin(x, low, high int) bool { return low <= x && x <= high }
