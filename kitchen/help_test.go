package kitchen_test

import (
	"fmt"
	"math/rand"
	"slices"
	"testing"

	"bivouac/api"
	"bivouac/kitchen"
)

func span(low, high int) api.Span { return api.Span{Low: low, High: high} }

// batch is an amount of a good that may be used up to a day.
func batch(good, amount, last int) api.Batch {
	return api.Batch{Good: good, Amount: amount, Last: last}
}

// dishes returns a dish for each list of needs.
func dishes(needs ...[]int) []api.Dish {
	var list []api.Dish
	for _, n := range needs {
		list = append(list, api.Dish{Needs: n})
	}
	return list
}

// group is a group of which just so many come.
func group(not, count int) api.Diners { return api.Diners{Not: not, Count: span(count, count)} }

// always returns days on each of which the same groups eat.
func always(days int, groups ...api.Diners) [][]api.Diners {
	var list [][]api.Diners
	for range days {
		list = append(list, slices.Clone(groups))
	}
	return list
}

// rows returns the same row for each day.
func rows(days int, row ...int) [][]int {
	var list [][]int
	for range days {
		list = append(list, slices.Clone(row))
	}
	return list
}

// exampleK is the kitchen K of the chapter.
func exampleK() api.Kitchen {
	return api.Kitchen{
		Allergens: []int{1, 0},
		Batches:   []api.Batch{batch(0, 1000, 1), batch(0, 500, 3), batch(1, 2000, 2)},
		Dishes:    dishes([]int{200, 0}, []int{0, 300}),
		Days:      always(3, api.Diners{Count: span(2, 3)}, group(1, 1)),
	}
}

// exampleM are the menus M of the chapter.
func exampleM() [][]int { return rows(3, 0, 1) }

// soup returns a kitchen with one good and one dish that needs a gram of it, and
// so many guests on each day.
func soup(batches []api.Batch, counts ...int) api.Kitchen {
	k := api.Kitchen{Allergens: []int{0}, Batches: batches, Dishes: dishes([]int{1})}
	for _, count := range counts {
		k.Days = append(k.Days, []api.Diners{group(0, count)})
	}
	return k
}

// soups are the menus of a kitchen that has just soup.
func soups(days int) [][]int { return rows(days, 0) }

// fullest returns a kitchen in which all is as much as may be.
func fullest() api.Kitchen {
	k := api.Kitchen{Allergens: slices.Repeat([]int{255}, api.MaxGoods)}
	for i := range api.MaxBatches {
		k.Batches = append(k.Batches, batch(i%api.MaxGoods, api.MaxGrams, api.MaxLast))
	}
	k.Dishes = dishes(rows(api.MaxDishes, slices.Repeat([]int{api.MaxNeed}, api.MaxGoods)...)...)
	k.Days = always(api.MaxDays, slices.Repeat([]api.Diners{group(0, api.MaxCount)}, api.MaxGroups)...)
	return k
}

func copyKitchen(k api.Kitchen) api.Kitchen {
	k.Allergens, k.Batches, k.Dishes, k.Days = slices.Clone(k.Allergens), slices.Clone(k.Batches), slices.Clone(k.Dishes), slices.Clone(k.Days)
	for i := range k.Dishes {
		k.Dishes[i].Needs = slices.Clone(k.Dishes[i].Needs)
	}
	for i := range k.Days {
		k.Days[i] = slices.Clone(k.Days[i])
	}
	return k
}

// sameRows reports whether two tables are equal; nil and empty rows are.
func sameRows(a, b [][]int) bool { return slices.EqualFunc(a, b, slices.Equal[[]int]) }

// eachGroup returns a number for each day and group.
func eachGroup(k api.Kitchen, number func(day, group int) int) [][]int {
	list := make([][]int, len(k.Days))
	for day, groups := range k.Days {
		for group := range groups {
			list[day] = append(list[day], number(day, group))
		}
	}
	return list
}

// highs are the greatest counts, lows the least ones.
func highs(k api.Kitchen) [][]int {
	return eachGroup(k, func(day, group int) int { return k.Days[day][group].Count.High })
}

func lows(k api.Kitchen) [][]int {
	return eachGroup(k, func(day, group int) int { return k.Days[day][group].Count.Low })
}

// suits is the definition of a dish that suits.
func suits(k api.Kitchen, dish, not int) bool {
	for good, allergens := range k.Allergens {
		for i := range 8 {
			if k.Dishes[dish].Needs[good] > 0 && allergens>>i&1 == 1 && not>>i&1 == 1 {
				return false
			}
		}
	}
	return true
}

// areMenus is the definition of menus.
func areMenus(k api.Kitchen, menus [][]int) bool {
	if len(menus) != len(k.Days) {
		return false
	}
	for day, groups := range k.Days {
		if len(menus[day]) != len(groups) {
			return false
		}
		for i, dish := range menus[day] {
			if dish < 0 || dish >= len(k.Dishes) || !suits(k, dish, groups[i].Not) {
				return false
			}
		}
	}
	return true
}

// needsOf returns what the dishes of a day need of each good.
func needsOf(k api.Kitchen, menu, counts []int) []int {
	needs := make([]int, len(k.Allergens))
	for i, dish := range menu {
		for good, need := range k.Dishes[dish].Needs {
			needs[good] += need * counts[i]
		}
	}
	return needs
}

// cooked is what becomes of the batches of a kitchen.
type cooked struct {
	left        []int
	waste, days int
}

// nextOf returns the batch from which a good is taken next on a day, or -1.
func nextOf(k api.Kitchen, left []int, good, day int) int {
	next := -1
	for i, b := range k.Batches {
		if b.Good == good && left[i] > 0 && b.Last >= day && (next < 0 || b.Last < k.Batches[next].Last) {
			next = i
		}
	}
	return next
}

// useOf takes what is needed on a day, and reports whether that is there.
func useOf(k api.Kitchen, left, needs []int, day int) bool {
	for good, need := range needs {
		for need > 0 {
			i := nextOf(k, left, good, day)
			if i < 0 {
				return false
			}
			taken := min(need, left[i])
			left[i], need = left[i]-taken, need-taken
		}
	}
	return true
}

// cookOf cooks by the definition.
func cookOf(k api.Kitchen, menus, counts [][]int) cooked {
	var c cooked
	for _, b := range k.Batches {
		c.left = append(c.left, b.Amount)
	}
	for day := range k.Days {
		for i, b := range k.Batches {
			if b.Last < day {
				c.waste, c.left[i] = c.waste+c.left[i], 0
			}
		}
		after := slices.Clone(c.left)
		if !useOf(k, after, needsOf(k, menus[day], counts[day]), day) {
			return c
		}
		c.left, c.days = after, day+1
	}
	return c
}

// suffices reports whether menus surely last all days.
func suffices(k api.Kitchen, menus [][]int) bool {
	return cookOf(k, menus, highs(k)).days == len(k.Days)
}

// eachMenus calls visit for all menus of a kitchen, those with the lower dish at
// the first position at which they differ first. It must not keep them.
func eachMenus(k api.Kitchen, visit func(menus [][]int)) {
	menus := eachGroup(k, func(day, group int) int { return -1 })
	var choose func(day, group int)
	choose = func(day, group int) {
		switch {
		case day == len(k.Days):
			visit(menus)
		case group == len(k.Days[day]):
			choose(day+1, 0)
		default:
			for dish := range k.Dishes {
				if suits(k, dish, k.Days[day][group].Not) {
					menus[day][group] = dish
					choose(day, group+1)
				}
			}
		}
	}
	choose(0, 0)
}

// planned is the result of a search for menus.
type planned struct {
	menus [][]int
	waste int
	found bool
	equal int // how many menus have the same least waste
}

// planOf goes through all menus.
func planOf(k api.Kitchen) planned {
	var best planned
	counts := highs(k)
	eachMenus(k, func(menus [][]int) {
		c := cookOf(k, menus, counts)
		if c.days < len(k.Days) {
			return
		}
		if !best.found || c.waste < best.waste {
			best = planned{waste: c.waste, found: true}
			for _, menu := range menus {
				best.menus = append(best.menus, slices.Clone(menu))
			}
		}
		if c.waste == best.waste {
			best.equal++
		}
	})
	return best
}

// stepsOf goes through all that can be left of the batches before each day, and
// so through greater kitchens than planOf. It returns the least waste from a day
// on, and -1 if no menus suffice.
func stepsOf(k api.Kitchen, day int, left []int, known map[string]int) int {
	if day == len(k.Days) {
		return 0
	}
	key := fmt.Sprint(day, left)
	if least, ok := known[key]; ok {
		return least
	}
	left, waste, least := slices.Clone(left), 0, -1
	for i, b := range k.Batches {
		if b.Last < day {
			waste, left[i] = waste+left[i], 0
		}
	}
	one := k
	one.Days = k.Days[day : day+1]
	eachMenus(one, func(menus [][]int) {
		after := slices.Clone(left)
		if useOf(k, after, needsOf(k, menus[0], highs(one)[0]), day) {
			if rest := stepsOf(k, day+1, after, known); rest >= 0 && (least < 0 || waste+rest < least) {
				least = waste + rest
			}
		}
	})
	known[key] = least
	return least
}

// amountsOf returns the amounts of the batches.
func amountsOf(k api.Kitchen) []int {
	var amounts []int
	for _, b := range k.Batches {
		amounts = append(amounts, b.Amount)
	}
	return amounts
}

// ordered returns a kitchen with one more batch of each good. (It can have more
// and greater batches than a valid one.)
func ordered(k api.Kitchen, amounts []int) api.Kitchen {
	k.Batches = slices.Clone(k.Batches)
	for good, amount := range amounts {
		k.Batches = append(k.Batches, batch(good, amount, api.MaxLast))
	}
	return k
}

// orderOf tries amounts of each good, from 0 on, with enough of all others.
func orderOf(k api.Kitchen, menus [][]int) []int {
	const plenty = 1 << 30
	least := make([]int, len(k.Allergens))
	for good := range least {
		amounts := slices.Repeat([]int{plenty}, len(least))
		for amounts[good] = 0; !suffices(ordered(k, amounts), menus); {
			amounts[good]++
		}
		least[good] = amounts[good]
	}
	return least
}

// size tells how great random kitchens are.
type size struct {
	goods, batches, dishes, days, groups int
	// places is how many groups there are at most on all days together.
	places, need, count int
}

// small is the size of kitchens all of whose menus can be gone through.
func small() size {
	return size{goods: 2, batches: 5, dishes: 3, days: 4, groups: 2, places: 5, need: 4, count: 3}
}

// medium is the size of kitchens in which all that can be left can be gone
// through.
func medium() size {
	return size{goods: 3, batches: 7, dishes: 3, days: 5, groups: 2, places: 10, need: 5, count: 3}
}

func large() size {
	return size{goods: api.MaxGoods, batches: api.MaxBatches, dishes: api.MaxDishes, days: api.MaxDays, groups: api.MaxGroups, places: api.MaxDays * api.MaxGroups, need: api.MaxNeed, count: api.MaxCount}
}

// allergens returns a set that often is empty.
func allergens(r *rand.Rand) int {
	return []int{0, 0, 1, 2, 1 << r.Intn(8), r.Intn(256) & r.Intn(256)}[r.Intn(6)]
}

// dish returns a dish that often needs just some of the goods.
func (z size) dish(r *rand.Rand, goods int) api.Dish {
	needs := make([]int, goods)
	for good := range needs {
		if r.Intn(5) < 2 {
			needs[good] = r.Intn(z.need + 1)
		}
	}
	needs[r.Intn(goods)] = r.Intn(z.need + 1)
	return api.Dish{Needs: needs}
}

func (z size) diners(r *rand.Rand) api.Diners {
	low := r.Intn(z.count + 1)
	d := api.Diners{Count: span(low, low+r.Intn(z.count-low+1))}
	if r.Intn(3) == 0 {
		d.Not = allergens(r)
	}
	return d
}

// stock returns batches that together are about what some menus need, so that
// there often just are menus that suffice.
func (z size) stock(r *rand.Rand, k api.Kitchen) []api.Batch {
	var batches []api.Batch
	menus := pickMenus(r, k)
	for range r.Intn(z.batches + 1) {
		good, last, needed := r.Intn(len(k.Allergens)), r.Intn(len(k.Days)+1), r.Intn(z.need+1)
		for day := range min(last+1, len(k.Days)) {
			if menus != nil {
				needed += needsOf(k, menus[day], highs(k)[day])[good]
			}
		}
		if r.Intn(9) == 0 {
			last = api.MaxLast
		}
		batches = append(batches, batch(good, min(api.MaxGrams, needed*r.Intn(5)/2), last))
	}
	return batches
}

func (z size) kitchen(r *rand.Rand) api.Kitchen {
	var k api.Kitchen
	for range 1 + r.Intn(z.goods) {
		k.Allergens = append(k.Allergens, allergens(r))
	}
	for range 1 + r.Intn(z.dishes) {
		k.Dishes = append(k.Dishes, z.dish(r, len(k.Allergens)))
	}
	places := z.places
	for range 1 + r.Intn(z.days) {
		var day []api.Diners
		for range min(places, r.Intn(z.groups+1)) {
			day = append(day, z.diners(r))
		}
		places -= len(day)
		k.Days = append(k.Days, day)
	}
	k.Batches = z.stock(r, k)
	return k
}

// eachKitchen calls visit for random kitchens.
func eachKitchen(t *testing.T, z size, seed int64, cases int, visit func(r *rand.Rand, k api.Kitchen)) {
	t.Helper()
	r := rand.New(rand.NewSource(seed))
	for i := range cases {
		k := z.kitchen(r)
		visit(r, k)
		if t.Failed() {
			t.Fatalf("case %d: %+v", i, k)
		}
	}
}

// eachMeal calls visit for random kitchens that have menus, with some of them.
func eachMeal(t *testing.T, z size, seed int64, cases int, visit func(r *rand.Rand, k api.Kitchen, menus [][]int)) {
	t.Helper()
	eachKitchen(t, z, seed, cases, func(r *rand.Rand, k api.Kitchen) {
		if menus := pickMenus(r, k); menus != nil {
			visit(r, k, menus)
		}
	})
}

// pickMenus returns some menus, or nil if there are none.
func pickMenus(r *rand.Rand, k api.Kitchen) [][]int {
	menus := eachGroup(k, func(day, group int) int {
		for _, dish := range r.Perm(len(k.Dishes)) {
			if suits(k, dish, k.Days[day][group].Not) {
				return dish
			}
		}
		return -1
	})
	if !areMenus(k, menus) {
		return nil
	}
	return menus
}

// pickCounts returns some counts, often at an end of what they can be.
func pickCounts(r *rand.Rand, k api.Kitchen) [][]int {
	return eachGroup(k, func(day, group int) int { return pick(r, k.Days[day][group].Count) })
}

// pick returns a number of a span, often one of its ends.
func pick(r *rand.Rand, s api.Span) int {
	return []int{s.Low, s.High, s.Low + r.Intn(s.High-s.Low+1)}[r.Intn(3)]
}

// daysOf returns what Lasts says.
func daysOf(t *testing.T, k api.Kitchen, menus [][]int) (sure, may int) {
	t.Helper()
	sure, may, e := kitchen.Lasts(k, menus)
	if e != api.OK {
		t.Fatalf("Lasts: %d", e)
	}
	return sure, may
}

func isTrue(b bool) int {
	if b {
		return 1
	}
	return 0
}

// windy returns an hour with some wind.
func windy(low, high int) api.Hour {
	return api.Hour{Wind: span(low, high), Temp: span(0, 10)}
}

// exampleS is the supply S of the chapter of supply.
func exampleS() api.Supply {
	calm, storm, gusts := windy(10, 20), windy(30, 60), windy(15, 45)
	widest := api.Limits{Wind: api.MaxWind, Rain: api.MaxRain, Temp: span(-api.MaxTemp, api.MaxTemp)}
	return api.Supply{
		Forecast: api.Forecast{Scenarios: []api.Scenario{
			{Hours: []api.Hour{calm, calm, calm, calm, storm, storm}},
			{Hours: []api.Hour{gusts, gusts, calm, calm, calm, calm}},
		}},
		Store: api.Store{Stock: 30, Reserve: 10, Room: 60, Use: span(5, 8)},
		Carriers: []api.Carrier{
			{Lift: 20, Heat: 1, Cost: 7, Limits: api.Limits{Wind: 40, Temp: span(-5, 15)}},
			{Lift: 15, Cost: 4, Limits: widest},
		},
	}
}

// waiting returns a supply whose carrier can come in the given hours of a
// forecast.
func waiting(hours int, calm ...int) api.Supply {
	s := exampleS()
	var list []api.Hour
	for hour := range hours {
		wind := 50
		if slices.Contains(calm, hour) {
			wind = 0
		}
		list = append(list, windy(wind, wind))
	}
	s.Forecast = api.Forecast{Scenarios: []api.Scenario{{Hours: list}}}
	return s
}
