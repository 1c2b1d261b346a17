package kitchen_test

import (
	"math"
	"math/rand"
	"reflect"
	"slices"
	"strings"
	"testing"

	"bivouac/api"
	"bivouac/kitchen"
)

// arguments are all that the functions of the package have.
type arguments struct {
	k                    api.Kitchen
	menus, counts        [][]int
	s                    api.Supply
	not, carrier, length int
}

// calls are all functions of the package; each returns the other results, and
// the error.
var calls = []struct {
	name string
	call func(a arguments) ([]any, api.Errno)
	// uses tells what, beside a kitchen, can be wrong with the arguments.
	uses string
}{
	{"Check", func(a arguments) ([]any, api.Errno) { return nil, kitchen.Check(a.k) }, ""},
	{"Suits", func(a arguments) ([]any, api.Errno) {
		list, e := kitchen.Suits(a.k, a.not)
		return []any{list}, e
	}, "not"},
	{"Cook", func(a arguments) ([]any, api.Errno) {
		left, waste, days, e := kitchen.Cook(a.k, a.menus, a.counts)
		return []any{left, waste, days}, e
	}, "menus counts"},
	{"Lasts", func(a arguments) ([]any, api.Errno) {
		sure, may, e := kitchen.Lasts(a.k, a.menus)
		return []any{sure, may}, e
	}, "menus"},
	{"Plan", func(a arguments) ([]any, api.Errno) {
		menus, waste, e := kitchen.Plan(a.k)
		return []any{menus, waste}, e
	}, "plan"},
	{"Order", func(a arguments) ([]any, api.Errno) {
		amounts, e := kitchen.Order(a.k, a.menus)
		return []any{amounts}, e
	}, "menus"},
	{"Enough", func(a arguments) ([]any, api.Errno) {
		days, enough, e := kitchen.Enough(a.k, a.menus, a.s, a.carrier, a.length)
		return []any{days, enough}, e
	}, "menus forecast sights scenarios store carriers carrier length window"},
}

// steps are the errors in their order: what makes an argument wrong, and the
// error.
var steps = []struct {
	name  string
	spoil func(a *arguments)
	e     api.Errno
}{
	{"kitchen", func(a *arguments) { a.k.Batches[0].Good = 2 }, api.ErrKitchen},
	{"menus", func(a *arguments) { a.menus[2][1] = 0 }, api.ErrMenus},
	{"counts", func(a *arguments) { a.counts[1][0] = 4 }, api.ErrCounts},
	{"not", func(a *arguments) { a.not = 256 }, api.ErrArg},
	{"forecast", func(a *arguments) { a.s.Forecast.Scenarios[1].Hours[5].Wind.High = api.MaxWind + 1 }, api.ErrForecast},
	{"sights", func(a *arguments) { a.s.Seen = append(a.s.Seen, a.s.Seen[0]) }, api.ErrSight},
	{"scenarios", func(a *arguments) { a.s.Seen[0].Sky.Wind = 46 }, api.ErrNone},
	{"store", func(a *arguments) { a.s.Store.Stock = a.s.Store.Room + 1 }, api.ErrStore},
	{"carriers", func(a *arguments) { a.s.Carriers[1].Cost = -1 }, api.ErrCarrier},
	{"carrier", func(a *arguments) { a.carrier = 2 }, api.ErrArg},
	{"length", func(a *arguments) { a.length = 0 }, api.ErrArg},
	{"window", func(a *arguments) { a.s.Carriers[0].Limits.Wind = 0 }, api.ErrNone},
	{"plan", func(a *arguments) { a.k.Batches[2].Amount = 899 }, api.ErrNone},
}

// hasStep reports whether a function can find the error of a step.
func hasStep(uses, step string) bool {
	return slices.Contains(strings.Fields("kitchen "+uses), step)
}

func goodArguments() arguments {
	s := exampleS()
	s.Seen = []api.Sight{{Hour: 0, Sky: api.Sky{Wind: 30, Temp: 5}}}
	return arguments{
		k: exampleK(), menus: exampleM(), counts: rows(3, 2, 1), s: s,
		not: 1, carrier: 0, length: 2,
	}
}

func isZero(results []any) bool {
	return !slices.ContainsFunc(results, func(x any) bool {
		v := reflect.ValueOf(x)
		return !v.IsZero() && (v.Kind() != reflect.Slice || v.Len() > 0)
	})
}

// check calls all functions that can find the error of a step.
func check(t *testing.T, what string, i int, step string, a arguments, want api.Errno) {
	t.Helper()
	for _, f := range calls {
		if !hasStep(f.uses, step) {
			continue
		}
		if results, e := f.call(a); e != want || e != api.OK && !isZero(results) {
			t.Errorf("%s with %s %d: %v, %d, want %d", f.name, what, i, results, e, want)
		}
	}
}

// TestP1_order: each function returns the first of several errors, and then all
// its other results are zero. From some step on all that a function has is wrong.
func TestP1_order(t *testing.T) {
	for first := range len(steps) + 1 {
		a := goodArguments()
		for i := len(steps) - 1; i >= first; i-- {
			steps[i].spoil(&a)
		}
		for _, f := range calls {
			want := api.OK
			for _, step := range steps[first:] {
				if want == api.OK && hasStep(f.uses, step.name) {
					want = step.e
				}
			}
			if results, e := f.call(a); e != want || e != api.OK && !isZero(results) {
				t.Errorf("%s with errors from %d on: %v, %d, want %d", f.name, first, results, e, want)
			}
		}
	}
}

// TestP1_pairs: so it is with any one error, and any two.
func TestP1_pairs(t *testing.T) {
	for i, one := range steps {
		a := goodArguments()
		one.spoil(&a)
		check(t, "wrong "+one.name, i, one.name, a, one.e)
		for _, two := range steps[i+1:] {
			a := goodArguments()
			two.spoil(&a)
			one.spoil(&a)
			for _, f := range calls {
				if !hasStep(f.uses, one.name) || !hasStep(f.uses, two.name) {
					continue
				}
				if results, e := f.call(a); e != one.e || !isZero(results) {
					t.Errorf("%s with wrong %s and %s: %v, %d, want %d", f.name, one.name, two.name, results, e, one.e)
				}
			}
		}
	}
}

// TestP1_kitchens: too few and too many of each thing, and each number outside its
// limits.
func TestP1_kitchens(t *testing.T) {
	for i, change := range []func(k *api.Kitchen){
		func(k *api.Kitchen) { k.Allergens = nil }, func(k *api.Kitchen) { k.Allergens = nil; k.Batches = nil; k.Dishes = dishes(nil, nil) }, func(k *api.Kitchen) { k.Allergens = []int{0} }, func(k *api.Kitchen) { k.Allergens = []int{1, 0, 0} },
		func(k *api.Kitchen) { k.Allergens = make([]int, 7); k.Dishes = dishes(make([]int, 7), make([]int, 7)) },
		func(k *api.Kitchen) { k.Allergens[1] = -1 }, func(k *api.Kitchen) { k.Allergens[1] = 256 }, func(k *api.Kitchen) { k.Allergens[0] = math.MinInt }, func(k *api.Kitchen) { k.Allergens[0] = math.MaxInt },
		func(k *api.Kitchen) { k.Batches = make([]api.Batch, api.MaxBatches+1) }, func(k *api.Kitchen) { k.Batches = make([]api.Batch, 1000) },
		func(k *api.Kitchen) { k.Batches[2].Good = -1 }, func(k *api.Kitchen) { k.Batches[0].Good = 2 }, func(k *api.Kitchen) { k.Batches[1].Good = math.MinInt }, func(k *api.Kitchen) { k.Batches[1].Good = math.MaxInt },
		func(k *api.Kitchen) { k.Batches[2].Amount = -1 }, func(k *api.Kitchen) { k.Batches[0].Amount = api.MaxGrams + 1 }, func(k *api.Kitchen) { k.Batches[1].Amount = math.MinInt }, func(k *api.Kitchen) { k.Batches[1].Amount = math.MaxInt },
		func(k *api.Kitchen) { k.Batches[2].Last = -1 }, func(k *api.Kitchen) { k.Batches[0].Last = api.MaxLast + 1 }, func(k *api.Kitchen) { k.Batches[1].Last = math.MinInt }, func(k *api.Kitchen) { k.Batches[1].Last = math.MaxInt },
		func(k *api.Kitchen) { k.Dishes = nil }, func(k *api.Kitchen) { k.Dishes = slices.Repeat(k.Dishes, 3) }, func(k *api.Kitchen) { k.Dishes[1].Needs = nil }, func(k *api.Kitchen) { k.Dishes[1].Needs = []int{0} }, func(k *api.Kitchen) { k.Dishes[0].Needs = []int{200, 0, 0} },
		func(k *api.Kitchen) { k.Dishes[0].Needs[1] = -1 }, func(k *api.Kitchen) { k.Dishes[1].Needs[1] = api.MaxNeed + 1 }, func(k *api.Kitchen) { k.Dishes[1].Needs[0] = math.MinInt }, func(k *api.Kitchen) { k.Dishes[0].Needs[0] = math.MaxInt },
		func(k *api.Kitchen) { k.Days = nil }, func(k *api.Kitchen) { k.Days = make([][]api.Diners, api.MaxDays+1) }, func(k *api.Kitchen) { k.Days = make([][]api.Diners, 1000) }, func(k *api.Kitchen) { k.Days[2] = slices.Repeat(k.Days[2], 2) },
		func(k *api.Kitchen) { k.Days[2][1].Not = -1 }, func(k *api.Kitchen) { k.Days[0][0].Not = 256 }, func(k *api.Kitchen) { k.Days[1][0].Not = math.MinInt }, func(k *api.Kitchen) { k.Days[1][0].Not = math.MaxInt },
		func(k *api.Kitchen) { k.Days[2][1].Count = span(-1, 1) }, func(k *api.Kitchen) { k.Days[0][0].Count = span(2, 101) }, func(k *api.Kitchen) { k.Days[1][0].Count = span(3, 2) }, func(k *api.Kitchen) { k.Days[1][0].Count = span(101, 101) }, func(k *api.Kitchen) { k.Days[1][0].Count = span(-1, -1) },
		func(k *api.Kitchen) { k.Days[1][0].Count = span(math.MinInt, math.MaxInt) }, func(k *api.Kitchen) { k.Days[1][0].Count = span(math.MaxInt, math.MinInt) }, func(k *api.Kitchen) { k.Days[1][0].Count = span(1, 0) },
	} {
		a := goodArguments()
		change(&a.k)
		check(t, "the invalid kitchen", i, "kitchen", a, api.ErrKitchen)
	}
	a := goodArguments()
	a.k, a.menus, a.counts = api.Kitchen{}, nil, nil
	check(t, "no kitchen", 0, "kitchen", a, api.ErrKitchen)
}

// TestP1_menus: too few and too many days and dishes, dishes that there are not,
// and those that do not suit. Menus that do not suffice are menus.
func TestP1_menus(t *testing.T) {
	for i, menus := range [][][]int{
		nil, {}, rows(2, 0, 1), rows(4, 0, 1), rows(1000, 0, 1), {{0, 1}, {0, 1}, nil}, {nil, {0, 1}, {0, 1}}, {{0, 1}, {0}, {0, 1}}, {{0, 1}, {0, 1, 1}, {0, 1}}, {{0, 1}, {0, 1}, {0, 1, 0}},
		{{0, 1}, {2, 1}, {0, 1}}, {{0, 1}, {0, 1}, {0, 2}}, {{-1, 1}, {0, 1}, {0, 1}}, {{0, 1}, {math.MinInt, 1}, {0, 1}}, {{0, 1}, {0, 1}, {math.MaxInt, 1}},
		{{0, 0}, {0, 1}, {0, 1}}, {{0, 1}, {0, 1}, {1, 0}}, rows(3, 1, 0),
	} {
		a := goodArguments()
		a.menus = menus
		check(t, "the invalid menus", i, "menus", a, api.ErrMenus)
		a.counts = nil
		check(t, "the invalid menus", i, "menus", a, api.ErrMenus)
	}
	for i, menus := range [][][]int{rows(3, 0, 1), rows(3, 1, 1), {{0, 1}, {1, 1}, {0, 1}}} {
		a := goodArguments()
		a.menus = menus
		check(t, "the valid menus", i, "menus", a, api.OK)
	}
	// no dish suits, also if nobody comes
	a := goodArguments()
	a.k.Days, a.menus, a.counts = [][]api.Diners{{group(3, 0)}}, [][]int{{1}}, [][]int{{0}}
	a.k.Allergens[1] = 2
	check(t, "a group that no dish suits", 0, "menus", a, api.ErrMenus)
	check(t, "a group that no dish suits", 0, "plan", a, api.ErrNone)
	a.k.Dishes[1].Needs[1] = 0
	check(t, "a dish that needs nothing", 0, "menus", a, api.OK)
	check(t, "a dish that needs nothing", 0, "plan", a, api.OK)
}

// TestP1_counts: too few and too many days and numbers, and those that cannot
// come.
func TestP1_counts(t *testing.T) {
	for i, counts := range [][][]int{
		nil, {}, rows(2, 2, 1), rows(4, 2, 1), rows(1000, 2, 1), {{2, 1}, {2, 1}, nil}, {{2, 1}, {2}, {2, 1}}, {{2, 1}, {2, 1, 1}, {2, 1}},
		{{1, 1}, {2, 1}, {2, 1}}, {{2, 1}, {4, 1}, {2, 1}}, {{2, 1}, {2, 1}, {2, 0}}, {{2, 1}, {2, 1}, {2, 2}}, {{2, -1}, {2, 1}, {2, 1}}, {{2, 1}, {math.MinInt, 1}, {2, 1}}, {{2, 1}, {math.MaxInt, 1}, {2, 1}},
	} {
		a := goodArguments()
		a.counts = counts
		check(t, "the invalid counts", i, "counts", a, api.ErrCounts)
	}
	for i, counts := range [][][]int{rows(3, 2, 1), rows(3, 3, 1), {{2, 1}, {3, 1}, {2, 1}}} {
		a := goodArguments()
		a.counts = counts
		check(t, "the valid counts", i, "counts", a, api.OK)
	}
}

// TestP1_arguments: each number outside its limits, and at them.
func TestP1_arguments(t *testing.T) {
	for _, bad := range []int{-1, 256, math.MinInt, math.MaxInt} {
		a := goodArguments()
		a.not = bad
		check(t, "the set", bad, "not", a, api.ErrArg)
	}
	for _, good := range []int{0, 1, 128, 255} {
		a := goodArguments()
		a.not = good
		check(t, "the set", good, "not", a, api.OK)
	}
	for _, bad := range []int{-1, 2, 4, math.MinInt, math.MaxInt} {
		a := goodArguments()
		a.carrier = bad
		check(t, "the carrier", bad, "carrier", a, api.ErrArg)
	}
	for _, bad := range []int{-1, 0, api.MaxHours + 1, math.MinInt, math.MaxInt} {
		a := goodArguments()
		a.length = bad
		check(t, "the length", bad, "length", a, api.ErrArg)
	}
	for length, want := range map[int]api.Errno{1: api.OK, 4: api.OK, 5: api.ErrNone, api.MaxHours: api.ErrNone} {
		a := goodArguments()
		a.length = length
		check(t, "the length", length, "length", a, want)
	}
}

// spoilResults writes into all memory of results.
func spoilResults(results []any) {
	for _, x := range results {
		switch x := x.(type) {
		case []int:
			for i := range x {
				x[i] = -7
			}
		case [][]int:
			for i := range x {
				for j := range x[i] {
					x[i][j] = -7
				}
				x[i] = nil
			}
		}
	}
}

// TestP1_memory: no argument is changed, no result shares memory with one, and
// nothing is kept.
func TestP1_memory(t *testing.T) {
	for _, f := range calls {
		given := goodArguments()
		first, _ := f.call(given)
		spoilResults(first)
		if !reflect.DeepEqual(given, goodArguments()) {
			t.Errorf("%s changes its arguments: %+v", f.name, given)
		}
		again, _ := f.call(given)
		if fresh, _ := f.call(goodArguments()); !reflect.DeepEqual(again, fresh) {
			t.Errorf("%s keeps something: %v, %v", f.name, again, fresh)
		}
	}
	menus, _, _ := kitchen.Plan(exampleK())
	menus[0][0] = -7
	_ = append(menus[0], -7)
	if !slices.Equal(menus[1], []int{0, 1}) {
		t.Error("the rows of Plan share memory")
	}
}

// TestP1_capacity: what lies behind the end of a slice is neither read nor
// changed; nil and empty slices are the same.
func TestP1_capacity(t *testing.T) {
	a := goodArguments()
	a.k.Allergens, a.k.Batches, a.k.Dishes, a.k.Days = append(a.k.Allergens, -1)[:2], append(a.k.Batches, batch(-1, -1, -1))[:3], append(a.k.Dishes, api.Dish{})[:2], append(a.k.Days, nil)[:3]
	a.k.Days[0], a.k.Dishes[0].Needs = append(a.k.Days[0], group(-1, -1))[:2], append(a.k.Dishes[0].Needs, -1)[:2]
	a.menus, a.counts = append(a.menus, nil)[:3], append(a.counts, nil)[:3]
	a.menus[1], a.counts[1] = append(a.menus[1], -1)[:2], append(a.counts[1], -1)[:2]
	for _, f := range calls {
		results, e := f.call(a)
		if want, e2 := f.call(goodArguments()); !reflect.DeepEqual(results, want) || e != e2 {
			t.Errorf("%s: %v, %d, want %v, %d", f.name, results, e, want, e2)
		}
	}
	if a.k.Batches[:4][3].Last != -1 || a.k.Allergens[:3][2] != -1 || a.k.Days[0][:3][2].Not != -1 || a.menus[1][:3][2] != -1 || a.counts[1][:3][2] != -1 {
		t.Errorf("something behind the end of a slice is changed: %+v", a)
	}
	bare := goodArguments()
	bare.k.Batches, bare.k.Days, bare.menus, bare.counts = nil, [][]api.Diners{nil}, [][]int{nil}, [][]int{nil}
	empty := bare
	empty.k.Batches, empty.k.Days, empty.menus, empty.counts = []api.Batch{}, [][]api.Diners{{}}, [][]int{{}}, [][]int{{}}
	for _, f := range calls {
		want, e := f.call(bare)
		if results, e2 := f.call(empty); !reflect.DeepEqual(results, want) || e2 != e || e != api.OK {
			t.Errorf("%s of empty slices: %v, %d, want %v, %d", f.name, results, e2, want, e)
		}
	}
}

// TestP1_any: no function panics, and each terminates, for wild arguments; a
// kitchen that is not valid is told from one that is.
func TestP1_any(t *testing.T) {
	r := rand.New(rand.NewSource(1))
	values := []int{math.MinInt, -2, -1, 0, 0, 0, 1, 1, 2, 3, 4, 5, 10, 30, 31, 100, 101, 255, 256, 5000, 5001, 1000000, 1000001, math.MaxInt}
	number := func() int { return values[r.Intn(len(values))] }
	for range 5000 {
		a := goodArguments()
		for range r.Intn(4) {
			b, d, g := &a.k.Batches[r.Intn(3)], &a.k.Dishes[r.Intn(2)], &a.k.Days[r.Intn(3)][r.Intn(2)]
			field := []*int{
				&b.Good, &b.Amount, &b.Last, &d.Needs[0], &d.Needs[1], &g.Not, &g.Count.Low, &g.Count.High, &a.k.Allergens[r.Intn(2)],
				&a.menus[r.Intn(3)][r.Intn(2)], &a.counts[r.Intn(3)][r.Intn(2)], &a.not, &a.carrier, &a.length, &a.s.Store.Stock, &a.s.Seen[0].Hour,
			}
			*field[r.Intn(len(field))] = number()
		}
		e := kitchen.Check(a.k)
		for _, f := range calls {
			if results, e2 := f.call(a); e != api.OK && e2 != e || e2 != api.OK && !isZero(results) {
				t.Errorf("%s of %+v: %v, %d, but Check: %d", f.name, a, results, e2, e)
			}
		}
	}
}
