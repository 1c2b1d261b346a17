package water_test

import (
	"math"
	"math/rand"
	"reflect"
	"slices"
	"strings"
	"testing"

	"bivouac/api"
	"bivouac/water"
)

// calls are all functions of the package, each with its arguments in a common
// form; each returns the other results, and the error.
var calls = []struct {
	name string
	call func(w api.Water, a arguments) ([]any, api.Errno)
	// uses tells which of the arguments the function has.
	uses string
}{
	{"Check", func(w api.Water, a arguments) ([]any, api.Errno) { return nil, water.Check(w) }, ""},
	{"Truths", func(w api.Water, a arguments) ([]any, api.Errno) {
		truths, e := water.Truths(w)
		return []any{truths}, e
	}, ""},
	{"Clean", func(w api.Water, a arguments) ([]any, api.Errno) {
		sure, may, e := water.Clean(w)
		return []any{sure, may}, e
	}, ""},
	{"Pure", func(w api.Water, a arguments) ([]any, api.Errno) {
		sure, may, e := water.Pure(w, a.mix)
		return []any{sure, may}, e
	}, "mix"},
	{"Conflict", func(w api.Water, a arguments) ([]any, api.Errno) {
		numbers, e := water.Conflict(w)
		return []any{numbers}, e
	}, ""},
	{"Serve", func(w api.Water, a arguments) ([]any, api.Errno) {
		plain, treated, fuel, e := water.Serve(w, a.need)
		return []any{plain, treated, fuel}, e
	}, "need"},
	{"Best", func(w api.Water, a arguments) ([]any, api.Errno) {
		mix, left, e := water.Best(w)
		return []any{mix, left}, e
	}, ""},
	{"Rounds", func(w api.Water, a arguments) ([]any, api.Errno) {
		rounds, e := water.Rounds(w)
		return []any{rounds}, e
	}, ""},
}

type arguments struct{ mix, need int }

func goodArguments() arguments { return arguments{mix: 3, need: 41} }

// wrongArguments are such that ErrArg comes next.
func wrongArguments() arguments { return arguments{mix: 8, need: -1} }

func isZero(results []any) bool {
	return !slices.ContainsFunc(results, func(x any) bool {
		v := reflect.ValueOf(x)
		return !v.IsZero() && (v.Kind() != reflect.Slice || v.Len() > 0)
	})
}

// badWater are changes, each of which makes the water W invalid.
func badWater() []func(w *api.Water) {
	return []func(w *api.Water){
		func(w *api.Water) { w.Springs = nil },
		func(w *api.Water) { w.Springs = []api.Spring{} },
		func(w *api.Water) { w.Springs = w.Springs[:2] },
		func(w *api.Water) { w.Springs = make([]api.Spring, api.MaxSprings+1) },
		func(w *api.Water) { w.Springs = make([]api.Spring, 100) },
		func(w *api.Water) { w.Springs[2].Yield = api.Span{Low: -1, High: 5} },
		func(w *api.Water) { w.Springs[2].Yield = api.Span{Low: 5, High: 4} },
		func(w *api.Water) { w.Springs[2].Yield = api.Span{Low: 5, High: api.MaxYield + 1} },
		func(w *api.Water) { w.Springs[2].Yield = api.Span{Low: api.MaxYield + 1, High: api.MaxYield + 1} },
		func(w *api.Water) { w.Springs[2].Yield = api.Span{Low: math.MinInt, High: math.MaxInt} },
		func(w *api.Water) { w.Springs[2].Fuel = -1 },
		func(w *api.Water) { w.Springs[2].Fuel = api.MaxFuel + 1 },
		func(w *api.Water) { w.Springs[0].Fuel = math.MaxInt },
		func(w *api.Water) { w.Most = -1 },
		func(w *api.Water) { w.Most = api.MaxSprings + 1 },
		func(w *api.Water) { w.Most = math.MinInt },
		func(w *api.Water) { w.Misses = -1 },
		func(w *api.Water) { w.Misses = api.MaxWrong + 1 },
		func(w *api.Water) { w.Misses = math.MaxInt },
		func(w *api.Water) { w.Alarms = -1 },
		func(w *api.Water) { w.Alarms = api.MaxWrong + 1 },
		func(w *api.Water) { w.Alarms = math.MinInt },
		func(w *api.Water) { w.Samples = slices.Repeat(w.Samples, 7) },
		func(w *api.Water) { w.Samples = slices.Repeat(w.Samples[:1], 1000) },
		func(w *api.Water) { w.Samples[2].Mix = 0 },
		func(w *api.Water) { w.Samples[2].Mix = -1 },
		func(w *api.Water) { w.Samples[2].Mix = 8 },
		func(w *api.Water) { w.Samples[0].Mix = 9 },
		func(w *api.Water) { w.Samples[2].Mix = math.MaxInt },
		func(w *api.Water) { w.Samples[2].Mix = math.MinInt },
		func(w *api.Water) { w.Samples = append(w.Samples, foul(0)) },
		func(w *api.Water) { *w = api.Water{} },
	}
}

// TestP4_1_Check: valid water at all limits, and each way not to be valid.
func TestP4_1_Check(t *testing.T) {
	full := springs(api.MaxSprings, api.MaxSprings)
	for i := range full.Springs {
		full.Springs[i] = spring(0, api.MaxYield, api.MaxFuel)
	}
	full = wrong(full, api.MaxWrong, api.MaxWrong)
	full.Samples = slices.Repeat([]api.Sample{foul(255)}, api.MaxSamples)
	for i, w := range []api.Water{
		exampleW(), exampleV(), exampleU(), full, springs(1, 0), springs(1, api.MaxSprings), springs(api.MaxSprings, 0),
		with(springs(1, 1), clean(1)),
		with(springs(3, 1), clean(7), foul(1)),
		{Springs: []api.Spring{spring(api.MaxYield, api.MaxYield, 0)}, Samples: []api.Sample{}},
	} {
		if e := water.Check(w); e != api.OK {
			t.Errorf("Check of the valid water %d: %d", i, e)
		}
	}
	for i, change := range badWater() {
		w := exampleW()
		change(&w)
		if e := water.Check(w); e != api.ErrWater {
			t.Errorf("Check of the invalid water %d: %d", i, e)
		}
	}
}

// TestP1_errors: each function returns ErrWater before all else, and then all
// its other results are zero.
func TestP1_errors(t *testing.T) {
	for i, change := range badWater() {
		for _, w := range []api.Water{exampleW(), exampleU()} {
			change(&w)
			for _, f := range calls {
				for _, a := range []arguments{goodArguments(), wrongArguments()} {
					if results, e := f.call(w, a); e != api.ErrWater || !isZero(results) {
						t.Errorf("%s of %d: %v, %d", f.name, i, results, e)
					}
				}
			}
		}
	}
}

// TestP1_arguments: each set that is no mix and each need outside its limits,
// before ErrNone.
func TestP1_arguments(t *testing.T) {
	outside := map[string][]int{
		"mix":  {0, -1, -8, 8, 9, 255, math.MinInt, math.MaxInt},
		"need": {-1, api.MaxLitres + 1, math.MinInt, math.MaxInt},
	}
	for _, f := range calls {
		for name, values := range outside {
			if !strings.Contains(f.uses, name) {
				continue
			}
			for _, x := range values {
				a := goodArguments()
				*map[string]*int{"mix": &a.mix, "need": &a.need}[name] = x
				for _, w := range []api.Water{exampleW(), exampleU()} {
					if results, e := f.call(w, a); e != api.ErrArg || !isZero(results) {
						t.Errorf("%s with %s %d: %v, %d", f.name, name, x, results, e)
					}
				}
			}
		}
	}
}

// TestP1_none: without a possible truth there is ErrNone, but for Check and
// Conflict; with one just Conflict has none.
func TestP1_none(t *testing.T) {
	for _, f := range calls {
		want := map[string]api.Errno{"Check": api.OK, "Conflict": api.OK}
		if _, ok := want[f.name]; !ok {
			want[f.name] = api.ErrNone
		}
		if results, e := f.call(exampleU(), goodArguments()); e != want[f.name] || e != api.OK && !isZero(results) {
			t.Errorf("%s of U: %v, %d", f.name, results, e)
		}
		possible := map[string]api.Errno{"Conflict": api.ErrNone}
		if results, e := f.call(exampleW(), goodArguments()); e != possible[f.name] || e != api.OK && !isZero(results) {
			t.Errorf("%s of W: %v, %d", f.name, results, e)
		}
	}
}

// TestP1_memory: no argument is changed, no result shares memory with one, and
// nothing is kept.
func TestP1_memory(t *testing.T) {
	for _, w := range []api.Water{exampleW(), exampleU()} {
		for _, f := range calls {
			given := copyWater(w)
			first, _ := f.call(given, goodArguments())
			for _, x := range first {
				if l, ok := x.([]int); ok {
					for i := range l {
						l[i] = -7
					}
				}
			}
			if !reflect.DeepEqual(given, w) {
				t.Errorf("%s changes its argument: %+v", f.name, given)
			}
			again, _ := f.call(given, goodArguments())
			fresh, _ := f.call(copyWater(w), goodArguments())
			if !reflect.DeepEqual(again, fresh) {
				t.Errorf("%s keeps something: %v, %v", f.name, again, fresh)
			}
		}
	}
}

// TestP1_capacity: what lies behind the end of a slice is neither read nor
// changed, and no samples are the same as nil.
func TestP1_capacity(t *testing.T) {
	w := exampleU()
	w.Springs = append(w.Springs, spring(-1, -1, -1))[:3]
	w.Samples = append(w.Samples, foul(-1))[:5]
	for _, f := range calls {
		results, e := f.call(w, goodArguments())
		want, e2 := f.call(exampleU(), goodArguments())
		if !reflect.DeepEqual(results, want) || e != e2 {
			t.Errorf("%s: %v, %d, want %v, %d", f.name, results, e, want, e2)
		}
	}
	if w.Springs[:4][3].Fuel != -1 || w.Samples[:6][5].Mix != -1 {
		t.Errorf("something behind the end of a slice is changed: %+v", w)
	}
	for _, f := range calls {
		empty := springs(3, 1)
		want, e := f.call(empty, goodArguments())
		empty.Samples = []api.Sample{}
		if results, e2 := f.call(empty, goodArguments()); !reflect.DeepEqual(results, want) || e2 != e {
			t.Errorf("%s of empty slices: %v, %d, want %v, %d", f.name, results, e2, want, e)
		}
	}
}

// TestP1_any: no function panics, and each terminates, for wild arguments; water
// that is not valid is told from water that is.
func TestP1_any(t *testing.T) {
	r := rand.New(rand.NewSource(1))
	values := []int{math.MinInt, -2, -1, 0, 0, 1, 1, 2, 3, 4, 5, 7, 8, 9, 20, 255, 256, 1000, 1001, 10000, math.MaxInt}
	number := func() int { return values[r.Intn(len(values))] }
	for range 5000 {
		w := exampleU()
		for range r.Intn(4) {
			field := []*int{
				&w.Springs[0].Yield.Low, &w.Springs[1].Yield.High, &w.Springs[2].Fuel,
				&w.Most, &w.Misses, &w.Alarms, &w.Samples[0].Mix, &w.Samples[3].Mix,
			}
			*field[r.Intn(len(field))] = number()
		}
		e := water.Check(w)
		for _, f := range calls {
			if _, e2 := f.call(w, arguments{number(), number()}); (e2 == api.ErrWater) != (e == api.ErrWater) {
				t.Errorf("%s of %+v: %d", f.name, w, e2)
			}
		}
	}
}
