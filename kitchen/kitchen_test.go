package kitchen_test

import (
	"slices"
	"testing"

	"bivouac/api"
	"bivouac/kitchen"
)

// TestP7_1_Check: valid kitchens, also at all limits.
func TestP7_1_Check(t *testing.T) {
	few := api.Kitchen{Allergens: []int{0}, Dishes: dishes([]int{0}), Days: [][]api.Diners{nil}}
	empty := api.Kitchen{Allergens: []int{255}, Batches: []api.Batch{}, Dishes: dishes([]int{api.MaxNeed}), Days: [][]api.Diners{{}}}
	none := exampleK()
	none.Batches = nil
	for i, k := range []api.Kitchen{
		exampleK(), fullest(), few, empty, none, soup([]api.Batch{batch(0, 0, 0)}, 0), soup([]api.Batch{batch(0, 0, api.MaxLast)}, api.MaxCount),
		{Allergens: []int{0}, Dishes: dishes([]int{0}), Days: always(1, api.Diners{Not: 255, Count: span(0, api.MaxCount)})},
		{Allergens: []int{0}, Dishes: dishes([]int{0}), Days: [][]api.Diners{nil, {group(0, 0)}, nil, slices.Repeat([]api.Diners{group(7, 1)}, 3), {}, nil}},
	} {
		if e := kitchen.Check(k); e != api.OK {
			t.Errorf("Check of the valid kitchen %d: %d", i, e)
		}
	}
}

// TestP7_2_Suits: the example, needs of 0, sets of several allergens, and groups
// that no dish or every dish suits.
func TestP7_2_Suits(t *testing.T) {
	many := api.Kitchen{
		Allergens: []int{1, 2, 4, 0, 128, 255},
		Dishes:    dishes([]int{1, 0, 0, 9, 0, 0}, []int{0, api.MaxNeed, 0, 0, 0, 0}, []int{0, 0, 1, 0, 1, 0}, []int{0, 0, 0, 5, 0, 0}, []int{0, 0, 0, 0, 0, 1}),
		Days:      always(1),
	}
	for i, x := range []struct {
		k    api.Kitchen
		not  int
		want []int
	}{
		{exampleK(), 0, []int{0, 1}}, {exampleK(), 1, []int{1}}, {exampleK(), 2, []int{0, 1}}, {exampleK(), 254, []int{0, 1}}, {exampleK(), 255, []int{1}},
		{many, 0, []int{0, 1, 2, 3, 4}}, {many, 1, []int{1, 2, 3}}, {many, 2, []int{0, 2, 3}}, {many, 3, []int{2, 3}}, {many, 4, []int{0, 1, 3}}, {many, 128, []int{0, 1, 3}}, {many, 7, []int{3}}, {many, 8, []int{0, 1, 2, 3}}, {many, 255, []int{3}},
		{fullest(), 0, []int{0, 1, 2, 3, 4}}, {fullest(), 1, nil}, {fullest(), 128, nil}, {soup(nil, 1), 255, []int{0}},
	} {
		if list, e := kitchen.Suits(x.k, x.not); !slices.Equal(list, x.want) || e != api.OK {
			t.Errorf("%d: Suits of %d = %v, %d, want %v", i, x.not, list, e, x.want)
		}
	}
}

// TestP7_3_Cook: the examples, batches that are used in their order, and goods
// that run out.
func TestP7_3_Cook(t *testing.T) {
	k := exampleK()
	same := []api.Batch{batch(0, 5, 2), batch(0, 4, 1), batch(0, 3, 2), batch(0, 2, 1)}
	for i, x := range []struct {
		k           api.Kitchen
		counts      [][]int
		left        []int
		waste, days int
	}{
		{k, rows(3, 2, 1), []int{0, 100, 1100}, 200, 3}, {k, rows(3, 3, 1), []int{0, 300, 1400}, 0, 2}, {k, [][]int{{2, 1}, {3, 1}, {2, 1}}, []int{0, 100, 1100}, 0, 3}, {k, [][]int{{2, 1}, {2, 1}, {3, 1}}, []int{0, 500, 1400}, 200, 2},
		// what is thrown away on the day on which a good runs out, also of another good
		{soup([]api.Batch{batch(0, 5, 0), batch(0, 4, 1)}, 3, 5), [][]int{{3}, {5}}, []int{0, 4}, 2, 1}, {soup([]api.Batch{batch(0, 5, 0), batch(0, 4, 1)}, 6, 5), [][]int{{6}, {5}}, []int{0, 3}, 0, 1}, {soup([]api.Batch{batch(0, 5, 0), batch(0, 4, 1)}, 10, 5), [][]int{{10}, {5}}, []int{5, 4}, 0, 0},
		// nothing is thrown away before its Last is over, and all of it then
		{soup([]api.Batch{batch(0, 9, 0)}, 1), [][]int{{1}}, []int{8}, 0, 1}, {soup([]api.Batch{batch(0, 9, 0)}, 1, 0), [][]int{{1}, {0}}, []int{0}, 8, 2}, {soup([]api.Batch{batch(0, 9, 1)}, 1, 0), [][]int{{1}, {0}}, []int{8}, 0, 2}, {soup([]api.Batch{batch(0, 9, 1)}, 1, 0, 0), [][]int{{1}, {0}, {0}}, []int{0}, 8, 3},
		{soup([]api.Batch{batch(0, 9, 0), batch(0, 8, 1), batch(0, 7, 2), batch(0, 6, 6), batch(0, 5, 30)}, 0, 0, 0, 0, 0, 0), rows(6, 0), []int{0, 0, 0, 6, 5}, 24, 6},
		// the lower Last first, of these the lower number
		{soup(same, 1), [][]int{{1}}, []int{5, 3, 3, 2}, 0, 1}, {soup(same, 4), [][]int{{4}}, []int{5, 0, 3, 2}, 0, 1}, {soup(same, 5), [][]int{{5}}, []int{5, 0, 3, 1}, 0, 1}, {soup(same, 7), [][]int{{7}}, []int{4, 0, 3, 0}, 0, 1}, {soup(same, 11), [][]int{{11}}, []int{0, 0, 3, 0}, 0, 1}, {soup(same, 13), [][]int{{13}}, []int{0, 0, 1, 0}, 0, 1}, {soup(same, 14), [][]int{{14}}, []int{0, 0, 0, 0}, 0, 1}, {soup(same, 15), [][]int{{15}}, []int{5, 4, 3, 2}, 0, 0},
		{soup(same, 3, 1, 6), [][]int{{3}, {1}, {6}}, []int{0, 0, 2, 0}, 2, 3},
		// exactly what is there, and one gram more, on the first day and on a later one
		{soup([]api.Batch{batch(0, 9, 5)}, 9, 0), [][]int{{9}, {0}}, []int{0}, 0, 2}, {soup([]api.Batch{batch(0, 9, 5)}, 9, 1), [][]int{{9}, {1}}, []int{0}, 0, 1}, {soup([]api.Batch{batch(0, 9, 5)}, 10, 0), [][]int{{10}, {0}}, []int{9}, 0, 0}, {soup([]api.Batch{batch(0, 9, 5)}, 4, 5), [][]int{{4}, {5}}, []int{0}, 0, 2}, {soup([]api.Batch{batch(0, 9, 5)}, 4, 6), [][]int{{4}, {6}}, []int{5}, 0, 1},
		// no batches, empty ones, and nobody
		{soup(nil, 0), [][]int{{0}}, nil, 0, 1}, {soup(nil, 1), [][]int{{1}}, nil, 0, 0}, {soup([]api.Batch{batch(0, 0, 0), batch(0, 2, 0), batch(0, 0, 0)}, 2), [][]int{{2}}, []int{0, 0, 0}, 0, 1},
	} {
		menus := soups(len(x.k.Days))
		if len(x.k.Dishes) == 2 {
			menus = exampleM()
		}
		left, waste, days, e := kitchen.Cook(x.k, menus, x.counts)
		if !slices.Equal(left, x.left) || waste != x.waste || days != x.days || e != api.OK {
			t.Errorf("%d: Cook = %v, %d, %d, %d, want %v, %d, %d", i, left, waste, days, e, x.left, x.waste, x.days)
		}
	}
	nobody := soup([]api.Batch{batch(0, 9, 0)}, 0, 0)
	nobody.Days = [][]api.Diners{nil, {}}
	left, waste, days, e := kitchen.Cook(nobody, [][]int{{}, nil}, [][]int{nil, {}})
	if !slices.Equal(left, []int{0}) || waste != 9 || days != 2 || e != api.OK {
		t.Errorf("Cook without groups = %v, %d, %d, %d", left, waste, days, e)
	}
}

// TestP7_3_goods: each good is taken from its own batches, and nothing is taken of
// any if one runs out.
func TestP7_3_goods(t *testing.T) {
	k := api.Kitchen{
		Allergens: []int{0, 0, 0},
		Batches:   []api.Batch{batch(2, 50, 1), batch(0, 40, 1), batch(1, 30, 0), batch(0, 20, 0), batch(1, 9, 30)},
		Dishes:    dishes([]int{3, 1, 0}, []int{0, 2, 5}),
		Days:      always(2, api.Diners{Count: span(0, 9)}, api.Diners{Count: span(0, 9)}),
	}
	for i, x := range []struct {
		menus, counts [][]int
		left          []int
		waste, days   int
	}{
		{rows(2, 0, 1), rows(2, 1, 1), []int{40, 37, 0, 0, 6}, 17 + 27, 2}, {rows(2, 1, 0), rows(2, 1, 1), []int{40, 37, 0, 0, 6}, 17 + 27, 2}, {rows(2, 0, 0), rows(2, 2, 3), []int{50, 25, 0, 0, 4}, 5 + 25, 2},
		// the good 1 runs out on the day 1, the good 2 on the day 0
		{rows(2, 0, 1), rows(2, 4, 3), []int{35, 40, 0, 0, 9}, 8 + 20, 1}, {rows(2, 1, 1), [][]int{{5, 6}, {0, 0}}, []int{50, 40, 30, 20, 9}, 0, 0}, {rows(2, 1, 1), [][]int{{5, 5}, {0, 0}}, []int{0, 40, 0, 0, 9}, 30, 2},
	} {
		left, waste, days, e := kitchen.Cook(k, x.menus, x.counts)
		if !slices.Equal(left, x.left) || waste != x.waste || days != x.days || e != api.OK {
			t.Errorf("%d: Cook = %v, %d, %d, %d, want %v, %d, %d", i, left, waste, days, e, x.left, x.waste, x.days)
		}
	}
}

// TestP7_3_most: as much of everything as may be.
func TestP7_3_most(t *testing.T) {
	k := fullest()
	menus := eachGroup(k, func(day, group int) int { return group })
	left, waste, days, e := kitchen.Cook(k, menus, highs(k))
	if !slices.Equal(left, amountsOf(k)) || waste != 0 || days != 0 || e != api.OK {
		t.Errorf("Cook = %v, %d, %d, %d", left, waste, days, e)
	}
	// just one group eats: half of each good that has one batch on a day
	k.Dishes[1].Needs, k.Dishes[2].Needs = make([]int, api.MaxGoods), make([]int, api.MaxGoods)
	left, waste, days, e = kitchen.Cook(k, menus, highs(k))
	if want := append(make([]int, api.MaxGoods), slices.Repeat([]int{api.MaxGrams}, 4)...); !slices.Equal(left, want) || waste != 0 || days != 2 || e != api.OK {
		t.Errorf("Cook = %v, %d, %d, %d, want %v", left, waste, days, e, want)
	}
}

// TestP7_4_Lasts: the example, and the ends of the counts.
func TestP7_4_Lasts(t *testing.T) {
	between := func(low, high int, batches ...api.Batch) api.Kitchen {
		k := soup(batches, 0, 0, 0)
		for day := range k.Days {
			k.Days[day][0].Count = span(low, high)
		}
		return k
	}
	for i, x := range []struct {
		k         api.Kitchen
		sure, may int
	}{
		{between(2, 3, batch(0, 9, 2)), 3, 3}, {between(2, 3, batch(0, 8, 2)), 2, 3}, {between(2, 3, batch(0, 6, 2)), 2, 3}, {between(2, 3, batch(0, 5, 2)), 1, 2}, {between(2, 3, batch(0, 2, 2)), 0, 1}, {between(2, 3, batch(0, 1, 2)), 0, 0}, {between(0, 3), 0, 3}, {between(0, 0), 3, 3}, {between(0, 1), 0, 3}, {between(1, 1), 0, 0}, {between(2, 2, batch(0, 4, 9)), 2, 2},
		// what ages does not last
		{between(2, 3, batch(0, 100, 1)), 2, 2}, {between(2, 3, batch(0, 100, 0)), 1, 1}, {between(2, 3, batch(0, 100, 0), batch(0, 4, 2)), 2, 3}, {between(2, 3, batch(0, 3, 2), batch(0, 6, 1)), 3, 3}, {between(2, 3, batch(0, 2, 2), batch(0, 7, 1)), 2, 3}, {between(1, 3, batch(0, 2, 2), batch(0, 7, 1)), 2, 3},
	} {
		if sure, may, e := kitchen.Lasts(x.k, soups(3)); sure != x.sure || may != x.may || e != api.OK {
			t.Errorf("%d: Lasts = %d, %d, %d, want %d, %d", i, sure, may, e, x.sure, x.may)
		}
	}
	if sure, may, e := kitchen.Lasts(exampleK(), exampleM()); sure != 2 || may != 3 || e != api.OK {
		t.Errorf("Lasts of K and M = %d, %d, %d", sure, may, e)
	}
	nobody := api.Kitchen{Allergens: []int{0}, Dishes: dishes([]int{9}), Days: [][]api.Diners{nil, {}, nil, nil, nil, nil}}
	if sure, may, e := kitchen.Lasts(nobody, make([][]int, 6)); sure != 6 || may != 6 || e != api.OK {
		t.Errorf("Lasts without groups = %d, %d, %d", sure, may, e)
	}
}

// planCase is a kitchen with the menus that Plan returns, and their waste; nil if
// no menus suffice.
type planCase struct {
	k     api.Kitchen
	menus [][]int
	waste int
}

// either returns a kitchen in which one group may eat a gram of the good 0 or of
// the good 1.
func either(batches []api.Batch, counts ...int) api.Kitchen {
	k := soup(batches, counts...)
	k.Allergens, k.Dishes = []int{1, 2}, dishes([]int{1, 0}, []int{0, 1})
	return k
}

// withNot returns a kitchen in which the groups of a day must not eat something.
func withNot(k api.Kitchen, day, not int) api.Kitchen {
	k = copyKitchen(k)
	for group := range k.Days[day] {
		k.Days[day][group].Not = not
	}
	return k
}

// stocked returns K with other batches.
func stocked(batches ...api.Batch) api.Kitchen {
	k := exampleK()
	k.Batches = batches
	return k
}

func planCases() []planCase {
	aging := []api.Batch{batch(0, 3, 0), batch(1, 9, 5)}
	free := dishes([]int{0}, []int{0})
	most := fullest()
	for dish := range most.Dishes {
		most.Dishes[dish].Needs = slices.Repeat([]int{dish}, api.MaxGoods)
	}
	return []planCase{
		{exampleK(), [][]int{{0, 1}, {0, 1}, {1, 1}}, 0},
		// what ages is eaten first, although the other dish is lower
		{either([]api.Batch{batch(1, 3, 0), batch(0, 9, 5)}, 3, 3), [][]int{{1}, {0}}, 0}, {either([]api.Batch{batch(1, 3, 1), batch(0, 9, 5)}, 3, 3), [][]int{{0}, {0}}, 0}, {either([]api.Batch{batch(1, 3, 1), batch(0, 9, 5)}, 3, 3, 3), [][]int{{0}, {1}, {0}}, 0}, {either(aging, 3, 3), [][]int{{0}, {1}}, 0},
		// some is thrown away, whatever is cooked
		{either(aging, 2, 3), [][]int{{0}, {1}}, 1}, {either(aging, 0, 3), [][]int{{0}, {1}}, 3}, {either([]api.Batch{batch(0, 3, 0), batch(1, 9, 1)}, 2, 4, 0), [][]int{{0}, {1}, {0}}, 6}, {either([]api.Batch{batch(0, 5, 0), batch(1, 4, 0), batch(1, 2, 5)}, 3, 2), [][]int{{0}, {1}}, 6}, {either([]api.Batch{batch(0, 4, 0), batch(1, 5, 0), batch(1, 2, 5)}, 5, 2), [][]int{{1}, {1}}, 4},
		// the menus with less waste do not suffice
		{either([]api.Batch{batch(0, 3, 0), batch(0, 2, 5), batch(1, 4, 5)}, 4, 3), [][]int{{0}, {1}}, 0}, {either([]api.Batch{batch(0, 3, 0), batch(0, 2, 5), batch(1, 4, 5)}, 4, 5), nil, 0}, {either([]api.Batch{batch(0, 3, 0), batch(0, 2, 5), batch(1, 4, 5)}, 4, 2), [][]int{{0}, {1}}, 0}, {either([]api.Batch{batch(0, 5, 0), batch(0, 2, 5), batch(1, 4, 5)}, 4, 2), [][]int{{0}, {0}}, 1},
		{withNot(either([]api.Batch{batch(0, 4, 0), batch(0, 4, 5), batch(1, 4, 5)}, 4, 4), 0, 1), [][]int{{1}, {0}}, 4}, {withNot(either([]api.Batch{batch(0, 4, 0), batch(0, 4, 5), batch(1, 4, 5)}, 4, 4), 1, 1), [][]int{{0}, {1}}, 0},
		{withNot(either([]api.Batch{batch(0, 4, 0), batch(1, 4, 5)}, 4, 4), 1, 2), nil, 0}, {withNot(either([]api.Batch{batch(0, 4, 1), batch(1, 4, 5)}, 4, 4), 1, 2), [][]int{{1}, {0}}, 0},
		// exactly what is there, and a gram more than that
		{soup([]api.Batch{batch(0, 9, 5)}, 4, 5), rows(2, 0), 0}, {soup([]api.Batch{batch(0, 9, 5)}, 4, 6), nil, 0}, {soup([]api.Batch{batch(0, 9, 5)}, 10), nil, 0}, {soup([]api.Batch{batch(0, 9, 0)}, 4, 5), nil, 0}, {soup([]api.Batch{batch(0, 9, 0)}, 4, 0), rows(2, 0), 5}, {soup([]api.Batch{batch(0, 9, 0)}, 4), rows(1, 0), 0},
		{either([]api.Batch{batch(0, 4, 5), batch(1, 5, 5)}, 5, 4), [][]int{{1}, {0}}, 0}, {either([]api.Batch{batch(0, 4, 5), batch(1, 4, 5)}, 5, 4), nil, 0}, {either([]api.Batch{batch(0, 8, 5), batch(1, 8, 5)}, 5, 5, 5), nil, 0}, {either([]api.Batch{batch(0, 8, 5), batch(1, 10, 5)}, 5, 5, 5), [][]int{{0}, {1}, {1}}, 0},
		// all menus have the same waste
		{api.Kitchen{Allergens: []int{0}, Batches: []api.Batch{batch(0, 7, 0), batch(0, 6, 1), batch(0, 5, 2)}, Dishes: free, Days: always(3, group(9, 9), group(0, 1))}, rows(3, 0, 0), 13},
		{api.Kitchen{Allergens: []int{1}, Batches: []api.Batch{batch(0, 7, 0)}, Dishes: dishes([]int{1}, []int{0}, []int{0}), Days: always(2, group(1, 9), group(0, 0))}, rows(2, 1, 0), 7},
		// nobody comes, but still must not eat everything
		{withNot(either(nil, 0, 0), 1, 1), [][]int{{0}, {1}}, 0}, {withNot(either(aging, 0, 0), 1, 3), nil, 0}, {withNot(either(aging, 1, 1), 0, 3), nil, 0}, {soup(nil, 1), nil, 0}, {soup(nil, 0), rows(1, 0), 0},
		// days without groups
		{api.Kitchen{Allergens: []int{0}, Dishes: dishes([]int{9}), Days: [][]api.Diners{nil}}, [][]int{nil}, 0},
		{api.Kitchen{Allergens: []int{0}, Batches: []api.Batch{batch(0, 9, 0), batch(0, 9, 4)}, Dishes: dishes([]int{9}), Days: [][]api.Diners{nil, {}, {group(0, 1)}, nil, nil, nil}}, [][]int{nil, nil, {0}, nil, nil, nil}, 9},
		{withNot(api.Kitchen{Allergens: []int{255}, Batches: []api.Batch{batch(0, 9, 4)}, Dishes: dishes([]int{9}), Days: [][]api.Diners{nil, {group(0, 0), group(0, 0)}}}, 1, 128), nil, 0},
		// K with less stock, and with more
		{stocked(batch(0, 1000, 1), batch(1, 2700, 2)), [][]int{{0, 1}, {1, 1}, {1, 1}}, 400}, {stocked(batch(0, 1000, 1), batch(1, 2699, 2)), nil, 0}, {stocked(batch(1, 3600, 2)), rows(3, 1, 1), 0}, {stocked(batch(1, 3599, 2)), nil, 0}, {stocked(batch(0, 600, 0), batch(0, 600, 1), batch(0, 600, 2), batch(1, 899, 30)), nil, 0}, {stocked(batch(0, 600, 0), batch(0, 600, 1), batch(0, 600, 2), batch(1, 900, 30)), rows(3, 0, 1), 0},
		{stocked(batch(0, 600, 0), batch(0, 600, 0), batch(1, 9000, 30)), [][]int{{0, 1}, {1, 1}, {1, 1}}, 600},
		// as much of everything as may be
		{most, rows(api.MaxDays, 0, 0, 0), 0},
	}
}

// TestP7_5_Plan: the example and other kitchens.
func TestP7_5_Plan(t *testing.T) {
	for i, x := range planCases() {
		want := api.OK
		if x.menus == nil {
			want = api.ErrNone
		}
		if menus, waste, e := kitchen.Plan(x.k); !sameRows(menus, x.menus) || waste != x.waste || e != want {
			t.Errorf("%d: Plan = %v, %d, %d, want %v, %d, %d", i, menus, waste, e, x.menus, x.waste, want)
		}
	}
}

// TestP7_6_Order: the example, and orders of nothing, of one good, and of several.
func TestP7_6_Order(t *testing.T) {
	four := api.Kitchen{
		Allergens: []int{0, 0, 0, 0},
		Batches:   []api.Batch{batch(0, 7, 0), batch(1, 7, 1), batch(1, 5, 0), batch(2, 12, 1)},
		Dishes:    dishes([]int{2, 2, 2, 0}, []int{0, 0, 0, 5}),
		Days:      always(2, group(0, 3)),
	}
	// the upper ends of the counts are asked for, and the new batches are used last
	last := soup([]api.Batch{batch(0, 3, 0), batch(0, 4, 30)}, 5, 5)
	last.Days[1][0].Count = span(0, 5)
	full := fullest()
	for i, x := range []struct {
		k     api.Kitchen
		menus [][]int
		want  []int
	}{
		{exampleK(), exampleM(), []int{300, 0}}, {exampleK(), rows(3, 1, 1), []int{0, 1600}}, {exampleK(), [][]int{{0, 1}, {0, 1}, {1, 1}}, []int{0, 0}}, {stocked(), exampleM(), []int{1800, 900}}, {stocked(batch(0, 1000, 0)), exampleM(), []int{1200, 900}},
		{four, rows(2, 0), []int{6, 0, 0, 0}}, {four, [][]int{{0}, {1}}, []int{0, 0, 0, 15}}, {four, [][]int{{1}, {0}}, []int{6, 0, 0, 15}}, {four, rows(2, 1), []int{0, 0, 0, 30}},
		{last, soups(2), []int{3}}, {soup([]api.Batch{batch(0, 9, 5)}, 4, 5), soups(2), []int{0}}, {soup([]api.Batch{batch(0, 9, 5)}, 4, 6), soups(2), []int{1}}, {soup([]api.Batch{batch(0, 9, 0)}, 4, 6), soups(2), []int{6}}, {soup(nil, 0), soups(1), []int{0}}, {soup(nil, 1), soups(1), []int{1}},
		// what is missing on the first day is not thrown away later, nor is it there on the second day
		{soup([]api.Batch{batch(0, 9, 0), batch(0, 4, 2)}, 11, 5), soups(2), []int{3}}, {soup([]api.Batch{batch(0, 4, 1)}, 6, 5), soups(2), []int{7}},
		// more than a batch can have, beside as many batches as there can be
		{full, rows(6, 0, 1, 2), []int{9000000 - 2000000, 9000000 - 2000000, 9000000 - 2000000, 9000000 - 2000000, 9000000 - 1000000, 9000000 - 1000000}},
		{api.Kitchen{Allergens: []int{0, 0}, Dishes: dishes([]int{9, 9}), Days: [][]api.Diners{nil}}, [][]int{nil}, []int{0, 0}},
	} {
		if amounts, e := kitchen.Order(x.k, x.menus); !slices.Equal(amounts, x.want) || e != api.OK {
			t.Errorf("%d: Order = %v, %d, want %v", i, amounts, e, x.want)
		}
	}
}

// TestP7_7_Enough: the example, and windows that begin at once, exactly after a
// day, and an hour later.
func TestP7_7_Enough(t *testing.T) {
	// K lasts two days with M, and one day, or none, with less stock
	one, none := exampleK(), exampleK()
	one.Batches[0].Amount, one.Batches[1].Amount = 600, 500
	none.Batches[2].Amount = 299
	short := exampleK()
	short.Days = short.Days[:1]
	never, low := waiting(6, 0, 2, 4), waiting(30, 25)
	low.Store.Stock = 10
	for i, x := range []struct {
		k      api.Kitchen
		s      api.Supply
		length int
		days   int
		enough bool
		e      api.Errno
	}{
		{exampleK(), exampleS(), 2, 1, true, api.OK}, {exampleK(), exampleS(), 5, 0, false, api.ErrNone}, {one, exampleS(), 2, 1, true, api.OK}, {none, exampleS(), 2, 1, false, api.OK},
		{exampleK(), waiting(1, 0), 1, 0, true, api.OK}, {none, waiting(1, 0), 1, 0, true, api.OK}, {none, waiting(2, 1), 1, 1, false, api.OK}, {one, waiting(2, 1), 1, 1, true, api.OK},
		{one, waiting(48, 23), 1, 1, true, api.OK}, {one, waiting(48, 24), 1, 1, true, api.OK}, {one, waiting(48, 25), 1, 2, false, api.OK}, {none, waiting(48, 24), 1, 1, false, api.OK}, {exampleK(), waiting(48, 24), 1, 1, true, api.OK}, {exampleK(), waiting(48, 25), 1, 2, true, api.OK}, {exampleK(), waiting(48, 47), 1, 2, true, api.OK}, {one, waiting(48, 47), 1, 2, false, api.OK},
		{exampleK(), waiting(48, 10, 24, 25), 2, 1, true, api.OK}, {one, waiting(48, 10, 25, 26), 2, 2, false, api.OK}, {one, waiting(48, 10, 25, 26), 1, 1, true, api.OK},
		// more days than the kitchen has; what the supply has in store does not matter
		{short, waiting(48, 25), 1, 2, false, api.OK}, {short, waiting(48, 24), 1, 1, true, api.OK}, {exampleK(), low, 1, 2, true, api.OK}, {exampleK(), never, 2, 0, false, api.ErrNone},
	} {
		days, enough, e := kitchen.Enough(x.k, exampleM()[:len(x.k.Days)], x.s, 0, x.length)
		if days != x.days || enough != x.enough || e != x.e {
			t.Errorf("%d: Enough = %d, %v, %d, want %d, %v, %d", i, days, enough, e, x.days, x.enough, x.e)
		}
	}
	if days, enough, e := kitchen.Enough(none, exampleM(), exampleS(), 1, 5); days != 0 || !enough || e != api.OK {
		t.Errorf("Enough of the carrier 1 = %d, %v, %d", days, enough, e)
	}
}
