package kitchen_test

import (
	"math/rand"
	"slices"
	"testing"

	"bivouac/api"
	"bivouac/kitchen"
	"bivouac/supply"
)

// TestP7_2_all: in any kitchen Suits is what the definition says.
func TestP7_2_all(t *testing.T) {
	counts := map[int]int{}
	eachKitchen(t, large(), 2, 500, func(r *rand.Rand, k api.Kitchen) {
		not := r.Intn(256)
		var want []int
		for dish := range k.Dishes {
			if suits(k, dish, not) {
				want = append(want, dish)
			}
		}
		if list, e := kitchen.Suits(k, not); !slices.Equal(list, want) || e != api.OK {
			t.Errorf("Suits of %d = %v, %d, want %v", not, list, e, want)
		}
		counts[len(want)]++
	})
	if min(counts[0], counts[1], counts[2]) < 30 {
		t.Errorf("just so many cases of each kind: %v", counts)
	}
}

// TestP7_3_all: in any kitchen with any menus and counts Cook is what the
// definition says.
func TestP7_3_all(t *testing.T) {
	wasted, short, all := 0, 0, 0
	for _, z := range []size{small(), medium(), large()} {
		eachMeal(t, z, 3, 2000, func(r *rand.Rand, k api.Kitchen, menus [][]int) {
			counts := pickCounts(r, k)
			want := cookOf(k, menus, counts)
			left, waste, days, e := kitchen.Cook(k, menus, counts)
			if !slices.Equal(left, want.left) || waste != want.waste || days != want.days || e != api.OK {
				t.Errorf("Cook of %v and %v = %v, %d, %d, %d, want %+v", menus, counts, left, waste, days, e, want)
			}
			wasted += isTrue(waste > 0)
			short += isTrue(0 < days && days < len(k.Days))
			all += isTrue(days == len(k.Days))
		})
	}
	if min(wasted, short, all) < 100 {
		t.Errorf("just %d cases with waste, %d in which some days are cooked, and %d with all days", wasted, short, all)
	}
}

// TestP7_4_all: in any kitchen with any menus Lasts is what the definition says.
func TestP7_4_all(t *testing.T) {
	apart := 0
	for _, z := range []size{small(), medium(), large()} {
		eachMeal(t, z, 4, 2000, func(r *rand.Rand, k api.Kitchen, menus [][]int) {
			sure, may := daysOf(t, k, menus)
			if sure != cookOf(k, menus, highs(k)).days || may != cookOf(k, menus, lows(k)).days {
				t.Errorf("Lasts of %v = %d, %d", menus, sure, may)
			}
			apart += isTrue(sure < may)
		})
	}
	if apart < 100 {
		t.Errorf("just %d cases in which menus may last longer", apart)
	}
}

// TestP7_5_all: in small kitchens Plan returns the first one of all menus with the
// least waste.
func TestP7_5_all(t *testing.T) {
	counts := map[string]int{}
	eachKitchen(t, small(), 5, 20000, func(r *rand.Rand, k api.Kitchen) {
		want := planOf(k)
		menus, waste, e := kitchen.Plan(k)
		if !sameRows(menus, want.menus) || waste != want.waste || (e == api.OK) != want.found || !want.found && e != api.ErrNone {
			t.Errorf("Plan = %v, %d, %d, want %+v", menus, waste, e, want)
		}
		counts["none"] += isTrue(!want.found)
		counts["waste"] += isTrue(want.waste > 0)
		counts["equal"] += isTrue(want.equal > 1 && want.waste > 0)
		first := true
		for _, menu := range want.menus {
			first = first && !slices.ContainsFunc(menu, func(dish int) bool { return dish > 0 })
		}
		counts["other"] += isTrue(want.found && !first && want.waste > 0)
	})
	if min(counts["none"], counts["waste"], counts["equal"], counts["other"]) < 100 {
		t.Errorf("just so many cases of each kind: %v", counts)
	}
}

// TestP7_5_steps: in greater kitchens no menus have less waste, by all that can be
// left of the batches before each day.
func TestP7_5_steps(t *testing.T) {
	none, wasted := 0, 0
	eachKitchen(t, medium(), 50, 10000, func(r *rand.Rand, k api.Kitchen) {
		want := stepsOf(k, 0, amountsOf(k), map[string]int{})
		_, waste, e := kitchen.Plan(k)
		if want >= 0 && (waste != want || e != api.OK) || want < 0 && e != api.ErrNone {
			t.Errorf("Plan = %d, %d, want %d", waste, e, want)
		}
		none += isTrue(want < 0)
		wasted += isTrue(want > 0)
	})
	if min(none, wasted) < 100 {
		t.Errorf("just %d cases without menus, and %d with waste", none, wasted)
	}
}

// TestP7_6_all: in small kitchens Order is what the definition says, also with
// each amount one by one.
func TestP7_6_all(t *testing.T) {
	nothing, several := 0, 0
	eachMeal(t, small(), 6, 5000, func(r *rand.Rand, k api.Kitchen, menus [][]int) {
		want := orderOf(k, menus)
		if amounts, e := kitchen.Order(k, menus); !slices.Equal(amounts, want) || e != api.OK {
			t.Errorf("Order of %v = %v, %d, want %v", menus, amounts, e, want)
		}
		nothing += isTrue(slices.Max(want) == 0)
		several += isTrue(len(want) > 1 && slices.Min(want) > 0)
	})
	if min(nothing, several) < 50 {
		t.Errorf("just %d orders of nothing, and %d of several goods", nothing, several)
	}
}

// pickSupply returns a supply whose carriers can come in some hours.
func pickSupply(r *rand.Rand) api.Supply {
	var calm []int
	for range 1 + r.Intn(4) {
		calm = append(calm, r.Intn(api.MaxHours))
	}
	return waiting(1+r.Intn(api.MaxHours), calm...)
}

// TestP7_7_all: in any kitchen Enough is what supply.Next and Lasts say.
func TestP7_7_all(t *testing.T) {
	counts := map[any]int{}
	eachMeal(t, medium(), 7, 1500, func(r *rand.Rand, k api.Kitchen, menus [][]int) {
		s, length := pickSupply(r), 1+r.Intn(2)
		hours, _, want := supply.Next(s, 0, length)
		sure, _ := daysOf(t, k, menus)
		begun := 0
		for hour := range hours {
			begun += isTrue(hour%24 == 0)
		}
		days, enough, e := kitchen.Enough(k, menus, s, 0, length)
		if days != begun || e != want || enough != (e == api.OK && sure >= begun) {
			t.Errorf("Enough of %v = %d, %v, %d, but the window begins after %d hours (%d), and Lasts says %d", menus, days, enough, e, hours, want, sure)
		}
		counts[e]++
		counts[enough]++
		counts[days]++
	})
	if min(counts[api.OK], counts[api.ErrNone], counts[true], counts[false], counts[0], counts[1], counts[2]) < 30 {
		t.Errorf("just so many cases of each kind: %v", counts)
	}
}

// TestP7_8: no dish of Plan's menus needs a good that has an allergen of the Not of
// its group; each dish is one that Suits returns.
func TestP7_8(t *testing.T) {
	strict := 0
	for _, z := range []size{small(), medium()} {
		eachKitchen(t, z, 8, 5000, func(r *rand.Rand, k api.Kitchen) {
			menus, _, e := kitchen.Plan(k)
			if e != api.OK {
				return
			}
			if !areMenus(k, menus) {
				t.Fatalf("Plan = %v", menus)
			}
			for day, menu := range menus {
				for i, dish := range menu {
					list, e := kitchen.Suits(k, k.Days[day][i].Not)
					if !slices.Contains(list, dish) || e != api.OK {
						t.Errorf("Plan = %v, but Suits = %v, %d", menus, list, e)
					}
					strict += isTrue(len(list) < len(k.Dishes))
				}
			}
		})
	}
	if strict < 300 {
		t.Errorf("just %d groups that must not eat some dishes", strict)
	}
}

// untilDay returns a kitchen that ends before a day.
func untilDay(k api.Kitchen, day int) api.Kitchen {
	k.Days = k.Days[:day]
	return k
}

// TestP7_9: what is left, what was thrown away, and what the dishes needed are
// together what there was. Nothing is used after its Last: what then becomes less
// is thrown away.
func TestP7_9(t *testing.T) {
	aged := 0
	for _, z := range []size{small(), medium(), large()} {
		eachMeal(t, z, 9, 2000, func(r *rand.Rand, k api.Kitchen, menus [][]int) {
			counts := pickCounts(r, k)
			before, wasted := amountsOf(k), 0
			for day := range k.Days {
				left, waste, days, e := kitchen.Cook(untilDay(k, day+1), menus[:day+1], counts[:day+1])
				if e != api.OK || days < day {
					t.Fatalf("Cook of %d days = %d, %d", day+1, days, e)
				}
				used, late := 0, 0
				for i, b := range k.Batches {
					used += before[i] - left[i]
					if b.Last < day {
						late += before[i]
						aged += isTrue(before[i] > 0)
					}
				}
				needed := 0
				for _, need := range needsOf(k, menus[day], counts[day]) {
					needed += need * (days - day)
				}
				if waste-wasted != late || used != needed+late {
					t.Errorf("Cook of %v and %v: %v, and then %v, with the waste %d more", menus, counts, before, left, waste-wasted)
				}
				if days == day {
					return
				}
				before, wasted = left, waste
			}
		})
	}
	if aged < 100 {
		t.Errorf("just %d batches were thrown away", aged)
	}
}

// fewer returns counts that are at most some others.
func fewer(r *rand.Rand, k api.Kitchen, counts [][]int) [][]int {
	return eachGroup(k, func(day, group int) int { return pick(r, span(k.Days[day][group].Count.Low, counts[day][group])) })
}

// TestP7_10: with any counts menus last as long as they surely do, and no longer
// than they may; with lower counts nothing runs out sooner.
func TestP7_10(t *testing.T) {
	longer := 0
	for _, z := range []size{small(), medium(), large()} {
		eachMeal(t, z, 10, 2000, func(r *rand.Rand, k api.Kitchen, menus [][]int) {
			sure, may := daysOf(t, k, menus)
			for range 5 {
				counts := pickCounts(r, k)
				_, _, days, e := kitchen.Cook(k, menus, counts)
				_, _, after, e2 := kitchen.Cook(k, menus, fewer(r, k, counts))
				if e != api.OK || e2 != api.OK || days < sure || days > may || after < days {
					t.Errorf("Cook of %v and %v = %d, and %d with lower counts, Lasts = %d, %d", menus, counts, days, after, sure, may)
				}
				longer += isTrue(after > days)
			}
		})
	}
	if longer < 100 {
		t.Errorf("just %d cases in which lower counts last longer", longer)
	}
}

// TestP7_11: Plan's menus suffice, with its waste; no menus that suffice have
// less, in kitchens of any size.
func TestP7_11(t *testing.T) {
	suffice, wasted := 0, 0
	for z, cases := range map[size]int{small(): 1000, medium(): 1000, large(): 200} {
		eachKitchen(t, z, 11, cases, func(r *rand.Rand, k api.Kitchen) {
			best, least, e := kitchen.Plan(k)
			if e == api.OK {
				c := cookOf(k, best, highs(k))
				if !areMenus(k, best) || c.days != len(k.Days) || c.waste != least {
					t.Errorf("Plan = %v, %d, but %+v", best, least, c)
				}
				wasted += isTrue(least > 0)
			}
			for range 20 {
				menus := pickMenus(r, k)
				if menus == nil {
					return
				}
				if c := cookOf(k, menus, highs(k)); c.days == len(k.Days) {
					suffice++
					if e != api.OK || c.waste < least || c.waste == least && slices.CompareFunc(menus, best, slices.Compare[[]int]) < 0 {
						t.Errorf("Plan = %v, %d, %d, but %v: %+v", best, least, e, menus, c)
					}
				}
			}
		})
	}
	if suffice < 1000 || wasted < 300 {
		t.Errorf("just %d menus that suffice, and %d plans with waste", suffice, wasted)
	}
}

// banquet returns a kitchen with as many groups, dishes and goods as may be, and
// menus that suffice. Of each good there is more than these need, in one batch or
// in two of which one ages.
func banquet(r *rand.Rand) (api.Kitchen, [][]int) {
	k := api.Kitchen{Allergens: make([]int, api.MaxGoods)}
	for range api.MaxDishes {
		k.Dishes = append(k.Dishes, size{need: 300}.dish(r, api.MaxGoods))
	}
	for range api.MaxDays {
		k.Days = append(k.Days, []api.Diners{group(0, r.Intn(101)), group(0, r.Intn(101)), group(0, r.Intn(101))})
	}
	menus := pickMenus(r, k)
	for good := range api.MaxGoods {
		early, late, last := 0, 0, r.Intn(api.MaxDays-1)
		for day := range api.MaxDays {
			need := needsOf(k, menus[day], highs(k)[day])[good]
			if good < api.MaxBatches-api.MaxGoods && day <= last {
				early += need
			} else {
				late += need
			}
		}
		k.Batches = append(k.Batches, batch(good, late*5/4, api.MaxLast))
		if good < api.MaxBatches-api.MaxGoods {
			k.Batches = append(k.Batches, batch(good, early*5/4, last))
		}
	}
	return k, menus
}

// TestP7_11_banquet: kitchens in which all is as much as may be are planned,
// although there are 5 to the power of 18 menus.
func TestP7_11_banquet(t *testing.T) {
	for _, seed := range []int64{0, 1, 2, 3, 4, 5, 6, 8, 9, 10, 11, 12, 13, 14, 16, 17, 18, 19, 31} {
		k, menus := banquet(rand.New(rand.NewSource(seed)))
		some := cookOf(k, menus, highs(k))
		best, waste, e := kitchen.Plan(k)
		if e != api.OK || waste > some.waste || !areMenus(k, best) {
			t.Fatalf("Plan of %+v = %v, %d, %d, but %v: %+v", k, best, waste, e, menus, some)
		}
		if c := cookOf(k, best, highs(k)); c.days < api.MaxDays || c.waste != waste {
			t.Errorf("Plan of %+v = %v, %d, but %+v", k, best, waste, c)
		}
	}
}

// pots returns a kitchen in which each dish needs a gram of a good of its own,
// with as many groups as may be, and how many eat on each day.
func pots(r *rand.Rand) (k api.Kitchen, guests []int) {
	k.Allergens = make([]int, api.MaxDishes)
	for good := range k.Allergens {
		k.Dishes = append(k.Dishes, api.Dish{Needs: make([]int, api.MaxDishes)})
		k.Dishes[good].Needs[good] = 1
	}
	for range api.MaxDays {
		a, b, c := 1+r.Intn(100), 1+r.Intn(100), 1+r.Intn(100)
		k.Days = append(k.Days, []api.Diners{group(0, a), group(0, b), group(0, c)})
		guests = append(guests, a+b+c)
	}
	return k, guests
}

// TestP7_5_pots: that no menus suffice, or that none waste less, is found without
// going through all of them, also if no good alone tells it.
func TestP7_5_pots(t *testing.T) {
	for seed := range int64(10) {
		k, guests := pots(rand.New(rand.NewSource(seed)))
		early, all := 0, 0
		for day, count := range guests {
			all += count
			early += isTrue(day < 4) * count
		}
		// what there is of all goods together is one gram too little
		for good := range k.Allergens {
			k.Batches = append(k.Batches, batch(good, (all+good)/5-isTrue(good == 4), api.MaxLast))
		}
		if menus, waste, e := kitchen.Plan(k); e != api.ErrNone || waste != 0 || len(menus) > 0 {
			t.Errorf("Plan of %+v = %v, %d, %d", k, menus, waste, e)
		}
		// each good alone could be eaten until its last day, but not all of them
		for good := range k.Allergens {
			k.Batches[good].Amount = all
			k.Batches = append(k.Batches, batch(good, early/2, 3))
		}
		if menus, waste, e := kitchen.Plan(k); e != api.OK || waste != early/2*5-early || !areMenus(k, menus) {
			t.Errorf("Plan of %+v = %v, %d, %d, want %d", k, menus, waste, e, early/2*5-early)
		}
		// no dish suits the last group
		k.Allergens = []int{1, 1, 1, 1, 1}
		k.Days[5][2].Not = 1
		if menus, waste, e := kitchen.Plan(k); e != api.ErrNone || waste != 0 || len(menus) > 0 {
			t.Errorf("Plan of %+v = %v, %d, %d", k, menus, waste, e)
		}
	}
}

// TestP7_12: with the amounts of Order menus suffice; with less of any good of
// which it is not 0 they do not.
func TestP7_12(t *testing.T) {
	less := 0
	for _, z := range []size{small(), medium(), large()} {
		eachMeal(t, z, 12, 2000, func(r *rand.Rand, k api.Kitchen, menus [][]int) {
			amounts, e := kitchen.Order(k, menus)
			if e != api.OK || !suffices(ordered(k, amounts), menus) {
				t.Fatalf("Order of %v = %v, %d", menus, amounts, e)
			}
			for good, amount := range amounts {
				if amount == 0 {
					continue
				}
				for _, lower := range []int{amount - 1, r.Intn(amount)} {
					other := slices.Clone(amounts)
					other[good] = lower
					if suffices(ordered(k, other), menus) {
						t.Errorf("Order of %v = %v, but %v is enough", menus, amounts, other)
					}
					less++
				}
			}
		})
	}
	if less < 1000 {
		t.Errorf("just %d lower amounts", less)
	}
}

// richer returns kitchens with one more batch, a greater amount, and a later last
// day of one.
func richer(r *rand.Rand, z size, k api.Kitchen) []api.Kitchen {
	more, greater, later := copyKitchen(k), copyKitchen(k), copyKitchen(k)
	if len(k.Batches) < api.MaxBatches {
		more.Batches = slices.Insert(more.Batches, r.Intn(len(k.Batches)+1), batch(r.Intn(len(k.Allergens)), r.Intn(min(api.MaxGrams, 3*z.need*z.count)), r.Intn(api.MaxDays)))
	}
	if len(k.Batches) > 0 {
		b, l := &greater.Batches[r.Intn(len(k.Batches))], &later.Batches[r.Intn(len(k.Batches))]
		b.Amount = pick(r, span(b.Amount, min(api.MaxGrams, b.Amount+z.need*z.count)))
		l.Last = pick(r, span(l.Last, max(l.Last, api.MaxDays)))
	}
	return []api.Kitchen{more, greater, later}
}

// TestP7_13: with one more batch, a greater amount or a later last day menus last
// no fewer days.
func TestP7_13(t *testing.T) {
	var longer [3]int
	for _, z := range []size{small(), medium(), large()} {
		eachMeal(t, z, 13, 5000, func(r *rand.Rand, k api.Kitchen, menus [][]int) {
			sure, may := daysOf(t, k, menus)
			for i, other := range richer(r, z, k) {
				sure2, may2 := daysOf(t, other, menus)
				if sure2 < sure || may2 < may {
					t.Errorf("Lasts of %v = %d, %d, and %d, %d with %+v", menus, sure, may, sure2, may2, other)
				}
				longer[i] += isTrue(sure2 > sure)
			}
		})
	}
	if slices.Min(longer[:]) < 50 {
		t.Errorf("just so many cases in which they last longer: %v", longer)
	}
}

// TestP0_10: with what is ordered menus last on all days of the kitchen until a
// window begins.
func TestP0_10(t *testing.T) {
	saved := 0
	eachMeal(t, medium(), 100, 1000, func(r *rand.Rand, k api.Kitchen, menus [][]int) {
		amounts, e := kitchen.Order(k, menus)
		if e != api.OK || len(k.Batches)+len(amounts) > api.MaxBatches {
			return
		}
		s := pickSupply(r)
		_, before, _ := kitchen.Enough(k, menus, s, 0, 1)
		days, enough, e := kitchen.Enough(ordered(k, amounts), menus, s, 0, 1)
		if e == api.OK && enough != (days <= len(k.Days)) {
			t.Errorf("Enough of %v with %v = %d, %v", menus, amounts, days, enough)
		}
		saved += isTrue(enough && !before)
	})
	if saved < 50 {
		t.Errorf("just %d cases in which what is ordered is needed", saved)
	}
}

// TestP0_10_seen: with one more observation the wait does not become longer, as
// long as some scenario is possible.
func TestP0_10_seen(t *testing.T) {
	shorter := 0
	r := rand.New(rand.NewSource(101))
	for range 4000 {
		s, other := pickSupply(r), pickSupply(r)
		hours := min(len(s.Forecast.Scenarios[0].Hours), len(other.Forecast.Scenarios[0].Hours))
		a, b := s.Forecast.Scenarios[0].Hours[:hours], other.Forecast.Scenarios[0].Hours[:hours]
		s.Forecast.Scenarios = []api.Scenario{{Hours: a}, {Hours: b}}
		seen, hour := s, r.Intn(hours)
		seen.Seen = []api.Sight{{Hour: hour, Sky: api.Sky{Wind: a[hour].Wind.Low, Temp: 5}}}
		days, enough, e := kitchen.Enough(exampleK(), exampleM(), s, 0, 1)
		days2, enough2, e2 := kitchen.Enough(exampleK(), exampleM(), seen, 0, 1)
		if e == api.OK && (e2 != api.OK || days2 > days || enough && !enough2) {
			t.Fatalf("Enough = %d, %v, %d, and then %d, %v, %d with %+v", days, enough, e, days2, enough2, e2, seen)
		}
		shorter += isTrue(e2 == api.OK && (e != api.OK || days2 < days))
	}
	if shorter < 50 {
		t.Errorf("just %d cases with a shorter wait", shorter)
	}
}
