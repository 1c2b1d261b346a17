package missing_test

import (
	"math"
	"math/rand"
	"reflect"
	"slices"
	"strings"
	"testing"

	"bivouac/api"
	"bivouac/missing"
)

// arguments are all that the functions of the package have.
type arguments struct {
	n           api.Net
	x           api.Missed
	rescue      api.Party
	place, path int
	from, to    int
	bases       []int
	spots       []api.Spot
	minutes     int
}

// base returns the base of the one team that some functions have.
func (a arguments) base() int {
	if len(a.bases) == 0 {
		return -1
	}
	return a.bases[0]
}

// calls are all functions of the package; each returns the other results, and the
// error.
var calls = []struct {
	name string
	call func(a arguments) ([]any, api.Errno)
	// uses tells what, beside a net, can be wrong with the arguments.
	uses string
}{
	{"Check", func(a arguments) ([]any, api.Errno) { return nil, missing.Check(a.n, a.x) }, "party hunt clue"},
	{"Where", func(a arguments) ([]any, api.Errno) {
		places, paths, e := missing.Where(a.n, a.x)
		return []any{places, paths}, e
	}, "party hunt clue trace"},
	{"Trace", func(a arguments) ([]any, api.Errno) {
		trace, e := missing.Trace(a.n, a.x, a.place, a.path)
		return []any{trace}, e
	}, "party hunt clue end trace"},
	{"Conflict", func(a arguments) ([]any, api.Errno) {
		clues, e := missing.Conflict(a.n, a.x)
		return []any{clues}, e
	}, "party hunt clue"},
	{"Way", func(a arguments) ([]any, api.Errno) {
		way, e := missing.Way(a.n, a.rescue, a.from, a.to)
		return []any{way}, e
	}, "rescue from to route"},
	{"Plan", func(a arguments) ([]any, api.Errno) {
		order, cost, e := missing.Plan(a.n, a.rescue, a.base(), a.spots)
		return []any{order, cost}, e
	}, "rescue spots base route"},
	{"Teams", func(a arguments) ([]any, api.Errno) {
		orders, cost, e := missing.Teams(a.n, a.rescue, a.bases, a.spots)
		return []any{orders, cost}, e
	}, "rescue spots base bases route"},
	{"Most", func(a arguments) ([]any, api.Errno) {
		most, e := missing.Most(a.n, a.rescue, a.base(), a.spots, a.minutes)
		return []any{most}, e
	}, "rescue spots base minutes"},
}

// steps are the errors in their order: what makes an argument wrong, and the error.
var steps = []struct {
	name  string
	spoil func(a *arguments)
	e     api.Errno
}{
	{"net", func(a *arguments) { a.n.Paths[4].Grade = 0 }, api.ErrNet},
	{"party", func(a *arguments) { a.x.Party.Load = -1 }, api.ErrParty},
	{"rescue", func(a *arguments) { a.rescue.Pace.Low = 49 }, api.ErrParty},
	{"hunt", func(a *arguments) { a.x.Rest = api.MaxTime + 1 }, api.ErrHunt},
	{"clue", func(a *arguments) { a.x.Clues[1].Places = 0 }, api.ErrClue},
	{"spots", func(a *arguments) { a.spots[2].Weight = -1 }, api.ErrTeams},
	{"base", func(a *arguments) { a.bases[0] = 4 }, api.ErrTeams},
	{"bases", func(a *arguments) { a.bases = append(a.bases, 0, 0, 0) }, api.ErrTeams},
	{"end", func(a *arguments) { a.path = 5 }, api.ErrArg},
	{"from", func(a *arguments) { a.from = -1 }, api.ErrArg},
	{"to", func(a *arguments) { a.to = 4 }, api.ErrArg},
	{"minutes", func(a *arguments) { a.minutes = api.MaxMinute + 1 }, api.ErrArg},
	{"trace", func(a *arguments) { a.x.Clues[2] = seen(430, 1) }, api.ErrNone},
	{"route", func(a *arguments) { a.rescue.Grade = 1 }, api.ErrNone},
}

// hasStep reports whether a function can find the error of a step.
func hasStep(uses, step string) bool {
	return slices.Contains(strings.Fields("net "+uses), step)
}

func goodArguments() arguments {
	a := arguments{
		n: exampleN(), x: exampleY(), rescue: exampleP(), place: 3, path: -1, from: 1, to: 0,
		bases: []int{0, 3}, spots: exampleS(), minutes: 400,
	}
	return a
}

// goodFor returns arguments with which a function has no error.
func goodFor(name string) arguments {
	a := goodArguments()
	if name == "Conflict" {
		a.x = exampleZ()
	}
	return a
}

func isZero(results []any) bool {
	return !slices.ContainsFunc(results, func(x any) bool {
		v := reflect.ValueOf(x)
		return !v.IsZero() && (v.Kind() != reflect.Slice || v.Len() > 0)
	})
}

// check calls all functions that can find the error of a step, with changed
// arguments.
func check(t *testing.T, what string, i int, step string, change func(a *arguments), want api.Errno) {
	t.Helper()
	for _, f := range calls {
		if !hasStep(f.uses, step) {
			continue
		}
		a := goodFor(f.name)
		change(&a)
		if results, e := f.call(a); e != want || e != api.OK && !isZero(results) {
			t.Errorf("%s with %s %d: %v, %d, want %d", f.name, what, i, results, e, want)
		}
	}
}

// TestP1_order: each function returns the first of several errors, and then all its
// other results are zero. From some step on all that a function has is wrong.
func TestP1_order(t *testing.T) {
	for _, f := range calls {
		for first := range len(steps) + 1 {
			a, want := goodFor(f.name), api.OK
			for i := len(steps) - 1; i >= first; i-- {
				if hasStep(f.uses, steps[i].name) {
					steps[i].spoil(&a)
					want = steps[i].e
				}
			}
			if results, e := f.call(a); e != want || e != api.OK && !isZero(results) {
				t.Errorf("%s with errors from %d on: %v, %d, want %d", f.name, first, results, e, want)
			}
		}
	}
}

// TestP1_pairs: so it is with any one error, and any two.
func TestP1_pairs(t *testing.T) {
	for i, one := range steps {
		check(t, "wrong "+one.name, i, one.name, one.spoil, one.e)
		for _, two := range steps[i+1:] {
			for _, f := range calls {
				if !hasStep(f.uses, one.name) || !hasStep(f.uses, two.name) {
					continue
				}
				a := goodFor(f.name)
				two.spoil(&a)
				one.spoil(&a)
				if results, e := f.call(a); e != one.e || !isZero(results) {
					t.Errorf("%s with wrong %s and %s: %v, %d, want %d", f.name, one.name, two.name, results, e, one.e)
				}
			}
		}
	}
}

// TestP1_none: Conflict has no conflict where Where and Trace have traces.
func TestP1_none(t *testing.T) {
	if l, e := missing.Conflict(exampleN(), exampleY()); len(l) > 0 || e != api.ErrNone {
		t.Errorf("Conflict = %v, %d", l, e)
	}
	wrong := exampleY()
	wrong.Clues[0].Places = 16
	if l, e := missing.Conflict(exampleN(), wrong); len(l) > 0 || e != api.ErrClue {
		t.Errorf("Conflict = %v, %d", l, e)
	}
}

// TestP1_nets: nets that are not valid.
func TestP1_nets(t *testing.T) {
	for i, change := range []func(n *api.Net){
		func(n *api.Net) { n.Places = 0 }, func(n *api.Net) { n.Places = -1 }, func(n *api.Net) { n.Places = api.MaxPlaces + 1 }, func(n *api.Net) { n.Places = math.MaxInt }, func(n *api.Net) { n.Places = 3 },
		func(n *api.Net) { n.Paths = slices.Repeat(n.Paths[:1], api.MaxPaths+1) }, func(n *api.Net) { n.Paths[4].From = -1 }, func(n *api.Net) { n.Paths[4].To = 4 }, func(n *api.Net) { n.Paths[4].To = 3 },
		func(n *api.Net) { n.Paths[0].Grade = api.MaxGrade + 1 }, func(n *api.Net) { n.Paths[0].Time = span(0, 5) }, func(n *api.Net) { n.Paths[0].Time = span(5, 601) }, func(n *api.Net) { n.Paths[0].Time = span(5, 4) },
		func(n *api.Net) { n.Paths[0].Snow = span(-1, 0) }, func(n *api.Net) { n.Paths[0].Snow = span(0, 31) }, func(n *api.Net) { n.Paths[0].Opens = make([]api.Span, api.MaxOpens+1) }, func(n *api.Net) { n.Paths[0].Opens[0].High = api.MaxMinute + 1 },
	} {
		check(t, "the invalid net", i, "net", func(a *arguments) { change(&a.n) }, api.ErrNet)
	}
	check(t, "no net", 0, "net", func(a *arguments) { *a = arguments{} }, api.ErrNet)
}

// TestP1_parties: parties, and rescue parties, that are not valid.
func TestP1_parties(t *testing.T) {
	for i, p := range []api.Party{
		{}, {Grade: 0, Pace: span(100, 100)}, {Grade: 7, Pace: span(100, 100)}, {Grade: -1, Pace: span(100, 100)}, {Grade: 3, Pace: span(49, 100)}, {Grade: 3, Pace: span(100, 301)}, {Grade: 3, Pace: span(100, 99)},
		{Grade: 3, Pace: span(100, 100), Load: -1}, {Grade: 3, Pace: span(100, 100), Load: 41}, {Grade: math.MaxInt, Pace: span(math.MinInt, math.MaxInt), Load: math.MinInt},
	} {
		check(t, "the invalid party", i, "party", func(a *arguments) { a.x.Party = p }, api.ErrParty)
		check(t, "the invalid rescue party", i, "rescue", func(a *arguments) { a.rescue = p }, api.ErrParty)
	}
	// the party is not asked for in a search, nor the rescue party in a hunt
	check(t, "no missed party", 0, "rescue", func(a *arguments) { a.x = api.Missed{} }, api.OK)
	check(t, "no rescue party", 0, "party", func(a *arguments) { a.rescue = api.Party{} }, api.OK)
}

// TestP8_1_hunts: each number of a missed party at its limits, and outside them.
func TestP8_1_hunts(t *testing.T) {
	for i, change := range []func(x *api.Missed){
		func(x *api.Missed) { x.Place = -1 }, func(x *api.Missed) { x.Place = 4 }, func(x *api.Missed) { x.Place = math.MinInt }, func(x *api.Missed) { x.Place = math.MaxInt },
		func(x *api.Missed) { x.Start = -1 }, func(x *api.Missed) { x.Start = 601 }, func(x *api.Missed) { x.Start = math.MinInt }, func(x *api.Missed) { x.Start = math.MaxInt }, func(x *api.Missed) { x.Start, x.Now = 2881, 2881 }, func(x *api.Missed) { x.Start, x.Now = -2, -1 },
		func(x *api.Missed) { x.Rest = -1 }, func(x *api.Missed) { x.Rest = 601 }, func(x *api.Missed) { x.Rest = math.MinInt }, func(x *api.Missed) { x.Rest = math.MaxInt },
		func(x *api.Missed) { x.Now = 299 }, func(x *api.Missed) { x.Now = 2881 }, func(x *api.Missed) { x.Now = -1 }, func(x *api.Missed) { x.Now = math.MinInt }, func(x *api.Missed) { x.Now = math.MaxInt },
	} {
		for _, clues := range [][]api.Clue{nil, exampleY().Clues, make([]api.Clue, 13)} {
			check(t, "the invalid missed party", i, "hunt", func(a *arguments) { change(&a.x); a.x.Clues = clues }, api.ErrHunt)
		}
	}
	for i, change := range []func(x *api.Missed){
		func(x *api.Missed) {}, func(x *api.Missed) { x.Place = 3 }, func(x *api.Missed) { x.Rest = 0 }, func(x *api.Missed) { x.Rest = 600 },
		func(x *api.Missed) { x.Now = 2880 }, func(x *api.Missed) { x.Now = 300 }, func(x *api.Missed) { x.Start = 0 }, func(x *api.Missed) { x.Start = 600 }, func(x *api.Missed) { x.Start, x.Now = 0, 0 }, func(x *api.Missed) { x.Start, x.Now = 2880, 2880 }, func(x *api.Missed) { x.Start, x.Now = 0, 2880 },
	} {
		x := exampleX()
		x.Clues = nil
		change(&x)
		if e := missing.Check(exampleN(), x); e != api.OK {
			t.Errorf("Check of the valid missed party %d: %d", i, e)
		}
	}
}

// TestP8_1_clues: the minutes and places of clues at their limits, and outside them,
// and too many clues.
func TestP8_1_clues(t *testing.T) {
	for i, c := range []api.Clue{
		seen(299, 2), seen(601, 2), unseen(-1, 2), seen(math.MinInt, 2), unseen(math.MaxInt, 2),
		seen(420, 0), unseen(420, 0), seen(420, 16), unseen(420, 16), seen(420, 17), seen(420, -1), unseen(420, math.MinInt), seen(420, math.MaxInt), {},
	} {
		for at := range 4 {
			spoil := func(a *arguments) { a.x.Clues = slices.Insert(slices.Clone(exampleY().Clues), at, c) }
			check(t, "the invalid clue", i, "clue", spoil, api.ErrClue)
		}
	}
	for _, count := range []int{13, 14, 1000} {
		check(t, "too many clues", count, "clue", func(a *arguments) { a.x.Clues = slices.Repeat([]api.Clue{seen(420, 2)}, count) }, api.ErrClue)
	}
	for i, clues := range [][]api.Clue{
		nil, {}, {seen(300, 1)}, {unseen(300, 15)}, {seen(600, 15), unseen(600, 8)}, slices.Repeat([]api.Clue{unseen(420, 8)}, 12), exampleZ().Clues,
	} {
		x := withClues(api.Missed{Party: exampleP(), Start: 300, Rest: 30, Now: 600}, clues...)
		if e := missing.Check(exampleN(), x); e != api.OK {
			t.Errorf("Check of the valid clues %d: %d", i, e)
		}
	}
	all := lost(0, 5, seen(0, 1<<12-1))
	if e := missing.Check(net(12), all); e != api.OK {
		t.Errorf("Check of a clue of MaxPlaces places: %d", e)
	}
	if e := missing.Check(net(11), all); e != api.ErrClue {
		t.Errorf("Check of a clue of too many places: %d", e)
	}
}

// TestP8_1_check: Check has the errors of all steps of a missed party, and no other
// one.
func TestP8_1_check(t *testing.T) {
	for _, x := range []api.Missed{exampleX(), exampleY(), exampleZ()} {
		if e := missing.Check(exampleN(), x); e != api.OK {
			t.Errorf("Check of %+v: %d", x, e)
		}
	}
	for _, step := range steps {
		a, want := goodArguments(), api.OK
		step.spoil(&a)
		if hasStep(calls[0].uses, step.name) {
			want = step.e
		}
		if e := missing.Check(a.n, a.x); e != want {
			t.Errorf("Check with wrong %s: %d, want %d", step.name, e, want)
		}
	}
}

// TestP1_ends: the places and paths to which a trace can be asked for.
func TestP1_ends(t *testing.T) {
	for i, x := range [][2]int{
		{-1, -1}, {0, 0}, {3, 4}, {4, -1}, {-2, -1}, {-1, 5}, {-1, -2}, {-2, 0}, {3, -2}, {-2, -2}, {4, 0}, {0, 5},
		{math.MinInt, -1}, {math.MaxInt, -1}, {-1, math.MinInt}, {-1, math.MaxInt}, {math.MaxInt, math.MaxInt},
	} {
		check(t, "the wrong end", i, "end", func(a *arguments) { a.place, a.path = x[0], x[1] }, api.ErrArg)
		// also if there is no trace at all
		check(t, "the wrong end", i, "end", func(a *arguments) { a.x, a.place, a.path = exampleZ(), x[0], x[1] }, api.ErrArg)
	}
	for i, x := range [][2]int{{0, -1}, {1, -1}, {2, -1}, {-1, 0}, {-1, 3}} {
		check(t, "where it is not", i, "end", func(a *arguments) { a.place, a.path = x[0], x[1] }, api.ErrNone)
	}
	for i, x := range [][2]int{{3, -1}, {-1, 4}} {
		check(t, "where it is", i, "end", func(a *arguments) { a.place, a.path = x[0], x[1] }, api.OK)
	}
	if trace, e := missing.Trace(net(2), lost(0, 5), -1, 0); len(trace) > 0 || e != api.ErrArg {
		t.Errorf("Trace on a path of a net without paths: %v, %d", trace, e)
	}
}

// TestP1_teams: spots and bases that are not valid, and those at their limits.
func TestP1_teams(t *testing.T) {
	for i, s := range []api.Spot{
		spot(-1, 1, 1), spot(4, 1, 1), spot(math.MinInt, 1, 1), spot(math.MaxInt, 1, 1), spot(0, -1, 1), spot(0, 101, 1), spot(0, math.MinInt, 1), spot(0, math.MaxInt, 1),
		spot(0, 1, -1), spot(0, 1, 601), spot(0, 1, math.MinInt), spot(0, 1, math.MaxInt),
	} {
		for at := range 4 {
			spoil := func(a *arguments) { a.spots = slices.Insert(exampleS(), at, s); a.minutes = -1 }
			check(t, "the invalid spot", i, "spots", spoil, api.ErrTeams)
		}
	}
	for _, count := range []int{0, 9, 10, 1000} {
		check(t, "so many spots", count, "spots", func(a *arguments) { a.spots = slices.Repeat([]api.Spot{spot(0, 1, 1)}, count) }, api.ErrTeams)
	}
	for i, s := range [][]api.Spot{{spot(0, 0, 0)}, {spot(3, 100, 600)}, slices.Repeat([]api.Spot{spot(2, 100, 600)}, 8)} {
		check(t, "the valid spots", i, "spots", func(a *arguments) { a.spots = s }, api.OK)
	}
	for i, base := range []int{-1, 4, math.MinInt, math.MaxInt} {
		check(t, "the base", i, "base", func(a *arguments) { a.bases = []int{base}; a.minutes = -1 }, api.ErrTeams)
		check(t, "the base", i, "bases", func(a *arguments) { a.bases = []int{0, 0, base} }, api.ErrTeams)
	}
	for i, bases := range [][]int{nil, {}, {0, 0, 0, 0}, make([]int, 1000), {0, 1, 2, 3}} {
		check(t, "the bases", i, "bases", func(a *arguments) { a.bases = bases }, api.ErrTeams)
	}
	for i, bases := range [][]int{{0}, {3}, {0, 0}, {3, 0}, {1, 2, 3}, {0, 0, 0}} {
		check(t, "the valid bases", i, "bases", func(a *arguments) { a.bases = bases }, api.OK)
	}
}

// TestP1_arguments: places and minutes at their limits, and outside them.
func TestP1_arguments(t *testing.T) {
	for i, place := range []int{-1, 4, math.MinInt, math.MaxInt} {
		check(t, "from the place", i, "from", func(a *arguments) { a.from = place }, api.ErrArg)
		check(t, "to the place", i, "to", func(a *arguments) { a.to = place }, api.ErrArg)
	}
	for i, minutes := range []int{-1, 2881, math.MinInt, math.MaxInt} {
		check(t, "the minutes", i, "minutes", func(a *arguments) { a.minutes = minutes }, api.ErrArg)
	}
	for i, minutes := range []int{0, 1, 2880} {
		check(t, "the minutes", i, "minutes", func(a *arguments) { a.minutes = minutes }, api.OK)
	}
}

// spoilResults writes into all memory of results.
func spoilResults(results []any) {
	for _, x := range results {
		switch x := x.(type) {
		case []int:
			for i := range x {
				x[i] = -7
			}
		case [][]int:
			for i := range x {
				for j := range x[i] {
					x[i][j] = -7
				}
				x[i] = nil
			}
		case []api.Pass:
			for i := range x {
				x[i] = pass(-7, -7, -7, -7)
			}
		}
	}
}

// TestP1_memory: no argument is changed, no result shares memory with one, and
// nothing is kept.
func TestP1_memory(t *testing.T) {
	for _, f := range calls {
		given := goodFor(f.name)
		first, e := f.call(given)
		if e != api.OK {
			t.Fatalf("%s: %d", f.name, e)
		}
		spoilResults(first)
		if !reflect.DeepEqual(given, goodFor(f.name)) {
			t.Errorf("%s changes its arguments: %+v", f.name, given)
		}
		again, _ := f.call(given)
		if fresh, _ := f.call(goodFor(f.name)); !reflect.DeepEqual(again, fresh) {
			t.Errorf("%s keeps something: %v, %v", f.name, again, fresh)
		}
	}
	n, s := star(10, 20, 30), []api.Spot{spot(1, 1, 0), spot(1, 1, 0), spot(2, 1, 0), spot(2, 1, 0), spot(3, 1, 0)}
	orders, _, _ := missing.Teams(n, walker(), []int{1, 2, 3}, s)
	for _, order := range orders {
		_ = append(order, -7)
		order[0] = -8
	}
	if again, _, _ := missing.Teams(n, walker(), []int{1, 2, 3}, s); !slices.Equal(orders[1][1:], again[1][1:]) {
		t.Error("the plans of Teams share memory")
	}
}

// TestP1_capacity: what lies behind the end of a slice is neither read nor changed;
// nil and empty slices are the same.
func TestP1_capacity(t *testing.T) {
	for _, f := range calls {
		a := goodFor(f.name)
		paths, clues, bases, spots := len(a.n.Paths), len(a.x.Clues), len(a.bases), len(a.spots)
		a.n.Paths, a.x.Clues = append(a.n.Paths, api.Path{})[:paths], append(a.x.Clues, unseen(-1, -1))[:clues]
		a.bases, a.spots = append(a.bases, -1)[:bases], append(a.spots, spot(-1, -1, -1))[:spots]
		results, e := f.call(a)
		if want, e2 := f.call(goodFor(f.name)); !reflect.DeepEqual(results, want) || e != e2 {
			t.Errorf("%s: %v, %d, want %v, %d", f.name, results, e, want, e2)
		}
		if a.x.Clues[:clues+1][clues] != unseen(-1, -1) || a.bases[:bases+1][bases] != -1 || a.spots[:spots+1][spots] != spot(-1, -1, -1) {
			t.Errorf("%s changes something behind the end of a slice: %+v", f.name, a)
		}
		bare := goodArguments()
		bare.n.Paths, bare.x.Clues, bare.place = nil, nil, 0
		empty := bare
		empty.n.Paths, empty.x.Clues = []api.Path{}, []api.Clue{}
		want, e := f.call(bare)
		if results, e2 := f.call(empty); !reflect.DeepEqual(results, want) || e2 != e {
			t.Errorf("%s of empty slices: %v, %d, want %v, %d", f.name, results, e2, want, e)
		}
	}
}

// TestP1_any: no function panics, and each terminates, for wild arguments; a missed
// party that is not valid is told from one that is.
func TestP1_any(t *testing.T) {
	r := rand.New(rand.NewSource(1))
	values := []int{math.MinInt, -2, -1, 0, 0, 0, 1, 1, 2, 3, 4, 5, 8, 9, 12, 15, 16, 100, 101, 300, 420, 600, 601, 2880, 2881, math.MaxInt}
	number := func() int { return values[r.Intn(len(values))] }
	for range 3000 {
		a := goodArguments()
		for range r.Intn(4) {
			path, c, s := &a.n.Paths[r.Intn(5)], &a.x.Clues[r.Intn(3)], &a.spots[r.Intn(3)]
			field := []*int{
				&a.n.Places, &path.From, &path.To, &path.Grade, &path.Time.Low, &path.Time.High, &path.Snow.High, &a.x.Party.Grade, &a.x.Party.Pace.High, &a.rescue.Grade, &a.rescue.Load,
				&a.x.Place, &a.x.Start, &a.x.Rest, &a.x.Now, &c.Minute, &c.Places, &s.Place, &s.Weight, &s.Search, &a.bases[r.Intn(2)], &a.place, &a.path, &a.from, &a.to, &a.minutes,
			}
			*field[r.Intn(len(field))] = number()
		}
		e := missing.Check(a.n, a.x)
		for _, f := range calls {
			results, e2 := f.call(a)
			if hasStep(f.uses, "hunt") && e != api.OK && e2 != e || e2 != api.OK && !isZero(results) {
				t.Errorf("%s of %+v: %v, %d, but Check: %d", f.name, a, results, e2, e)
			}
		}
	}
}
