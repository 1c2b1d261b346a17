package tours_test

import (
	"math"
	"math/rand"
	"reflect"
	"slices"
	"strings"
	"testing"

	"bivouac/api"
	"bivouac/tours"
)

// calls are all functions of the package, each with its arguments in a common
// form; each returns the other results, and the error.
var calls = []struct {
	name string
	call func(t api.Tour, a arguments) ([]any, api.Errno)
	// uses tells which of the arguments the function has.
	uses string
}{
	{"Check", func(t api.Tour, a arguments) ([]any, api.Errno) { return nil, tours.Check(t) }, ""},
	{"Bed", func(t api.Tour, a arguments) ([]any, api.Errno) {
		bed, e := tours.Bed(t, a.hut, a.night)
		return []any{bed}, e
	}, "hut night"},
	{"Day", func(t api.Tour, a arguments) ([]any, api.Errno) {
		arrival, e := tours.Day(t, a.from, a.to)
		return []any{arrival}, e
	}, "from to"},
	{"Sound", func(t api.Tour, a arguments) ([]any, api.Errno) {
		day, e := tours.Sound(t, a.huts)
		return []any{day}, e
	}, "huts"},
	{"Plan", func(t api.Tour, a arguments) ([]any, api.Errno) {
		huts, e := tours.Plan(t)
		return []any{huts}, e
	}, ""},
	{"Traps", func(t api.Tour, a arguments) ([]any, api.Errno) {
		traps, e := tours.Traps(t)
		return []any{traps}, e
	}, ""},
	{"Delays", func(t api.Tour, a arguments) ([]any, api.Errno) {
		minutes, e := tours.Delays(t, a.huts)
		return []any{minutes}, e
	}, "huts sound"},
	{"Escapes", func(t api.Tour, a arguments) ([]any, api.Errno) {
		places, e := tours.Escapes(t, a.huts)
		return []any{places}, e
	}, "huts sound"},
	{"Book", func(t api.Tour, a arguments) ([]any, api.Errno) {
		m, e := tours.Book(t, a.id)
		return []any{m}, e
	}, "id"},
}

type arguments struct {
	hut, night, from, to, id int
	huts                     []int
}

func goodArguments() arguments {
	return arguments{hut: 1, night: 3, from: 1, to: 3, id: 7, huts: []int{0, 1}}
}

// wrongArguments are such that ErrArg comes next.
func wrongArguments() arguments {
	return arguments{hut: 2, night: -1, from: 4, to: -1, id: 100, huts: []int{2}}
}

func isZero(results []any) bool {
	return !slices.ContainsFunc(results, func(x any) bool {
		v := reflect.ValueOf(x)
		return !v.IsZero() && (v.Kind() != reflect.Slice || v.Len() > 0)
	})
}

// The changes below each make the tour T invalid, with the error of the name.

func badNets() []func(t *api.Tour) {
	return []func(t *api.Tour){
		func(t *api.Tour) { t.Net = api.Net{} },
		func(t *api.Tour) { t.Net.Places = api.MaxPlaces + 1 },
		func(t *api.Tour) { t.Net.Places = 3 },
		func(t *api.Tour) { t.Net.Places = math.MinInt },
		func(t *api.Tour) { t.Net.Paths = slices.Repeat(t.Net.Paths, 5) },
		func(t *api.Tour) { t.Net.Paths[4].To = 3 },
		func(t *api.Tour) { t.Net.Paths[4].Grade = 0 },
		func(t *api.Tour) { t.Net.Paths[4].Time = span(0, 9) },
		func(t *api.Tour) { t.Net.Paths[4].Snow = span(3, 2) },
		func(t *api.Tour) { t.Net.Paths[4].Opens[0].High = api.MaxMinute + 1 },
	}
}

func badParties() []func(t *api.Tour) {
	return []func(t *api.Tour){
		func(t *api.Tour) { t.Party = api.Party{} },
		func(t *api.Tour) { t.Party.Grade = api.MaxGrade + 1 },
		func(t *api.Tour) { t.Party.Pace = span(49, 100) },
		func(t *api.Tour) { t.Party.Pace = span(100, 301) },
		func(t *api.Tour) { t.Party.Pace = span(100, 99) },
		func(t *api.Tour) { t.Party.Load = -1 },
		func(t *api.Tour) { t.Party.Load = api.MaxLoad + 1 },
	}
}

func badChains() []func(t *api.Tour) {
	return []func(t *api.Tour){
		func(t *api.Tour) { t.Chain = api.Chain{} },
		func(t *api.Tour) { t.Chain.Huts = nil },
		func(t *api.Tour) { t.Chain.Huts = make([]api.Hut, api.MaxHuts+1) },
		func(t *api.Tour) { t.Chain.Huts[1].Beds = api.MaxBeds + 1 },
		func(t *api.Tour) { t.Chain.Huts[1].Emergency = -1 },
		func(t *api.Tour) { t.Chain.Nights = 0 },
		func(t *api.Tour) { t.Chain.Nights = api.MaxNights + 1 },
	}
}

func badMessages() []func(t *api.Tour) {
	return []func(t *api.Tour){
		func(t *api.Tour) { t.Messages = append(t.Messages, api.Message{}) },
		func(t *api.Tour) { t.Messages[0].Kind = 3 },
		func(t *api.Tour) { t.Messages[0].People = 0 },
		func(t *api.Tour) { t.Messages[0].Stays = nil },
		func(t *api.Tour) { t.Messages[0].Stays[1].Hut = 2 },
		func(t *api.Tour) { t.Messages = slices.Repeat([]api.Message{cancel(1)}, api.MaxMessages+1) },
	}
}

func badTours() []func(t *api.Tour) {
	return []func(t *api.Tour){
		func(t *api.Tour) { t.Places = nil },
		func(t *api.Tour) { t.Places = []int{1} },
		func(t *api.Tour) { t.Places = []int{1, 3, 0} },
		func(t *api.Tour) { t.Places = []int{1, 1} },
		func(t *api.Tour) { t.Places = []int{1, 4} },
		func(t *api.Tour) { t.Places = []int{-1, 1} },
		func(t *api.Tour) { t.Places = []int{math.MaxInt, math.MinInt} },
		func(t *api.Tour) { t.People = 0 },
		func(t *api.Tour) { t.People = -1 },
		func(t *api.Tour) { t.People = api.MaxBeds + 1 },
		func(t *api.Tour) { t.People = math.MaxInt },
		func(t *api.Tour) { t.Strangers = -1 },
		func(t *api.Tour) { t.Strangers = api.MaxStrangers + 1 },
		func(t *api.Tour) { t.Strangers = math.MaxInt },
		func(t *api.Tour) { t.Start = -1 },
		func(t *api.Tour) { t.Start = math.MinInt },
		func(t *api.Tour) { t.Start = 701 },
		func(t *api.Tour) { t.Dusk = 299 },
		func(t *api.Tour) { t.Dusk = 901 },
		func(t *api.Tour) { t.Late = 699 },
		func(t *api.Tour) { t.Late = api.MaxMinute + 1 },
		func(t *api.Tour) { t.Dusk, t.Late = api.MaxMinute+1, api.MaxMinute+1 },
		func(t *api.Tour) { t.Start, t.Dusk, t.Late = 2881, 2881, 2881 },
		func(t *api.Tour) { t.Start, t.Dusk, t.Late = -2, -2, -1 },
		func(t *api.Tour) { t.From = -1 },
		func(t *api.Tour) { t.From = 4 },
		func(t *api.Tour) { t.To = -1 },
		func(t *api.Tour) { t.To = 4 },
		func(t *api.Tour) { t.To = math.MaxInt },
		func(t *api.Tour) { t.Id = -2 },
		func(t *api.Tour) { t.Id = api.MaxBooking + 1 },
		func(t *api.Tour) { t.Villages = []int{-1} },
		func(t *api.Tour) { t.Villages = []int{0, 4} },
		func(t *api.Tour) { t.Villages = []int{0, 0} },
		func(t *api.Tour) { t.Villages = []int{2, 0} },
		func(t *api.Tour) { t.Villages = []int{0, 1, 2, 3, 3} },
		func(t *api.Tour) { t.Villages = []int{0, 3, 2} },
	}
}

func clash(t *api.Tour) { t.Messages = append(t.Messages, request(5, 11, 1, stay(0, 0, 0))) }

// blocks are what can be wrong with a tour, in the order of the errors.
func blocks() []struct {
	e       api.Errno
	changes []func(t *api.Tour)
} {
	return []struct {
		e       api.Errno
		changes []func(t *api.Tour)
	}{
		{api.ErrNet, badNets()},
		{api.ErrParty, badParties()},
		{api.ErrChain, badChains()},
		{api.ErrMessages, badMessages()},
		{api.ErrClash, []func(t *api.Tour){clash}},
		{api.ErrTour, badTours()},
	}
}

// TestP3_1_Check: valid tours at all limits, and each way not to be valid.
func TestP3_1_Check(t *testing.T) {
	for i, change := range []func(t *api.Tour){
		func(t *api.Tour) {},
		func(t *api.Tour) { t.People, t.Strangers = 1, 0 },
		func(t *api.Tour) { t.People, t.Strangers = api.MaxBeds, api.MaxStrangers },
		func(t *api.Tour) { t.Start, t.Dusk, t.Late = 0, 0, 0 },
		func(t *api.Tour) { t.Start, t.Dusk, t.Late = 2880, 2880, 2880 },
		func(t *api.Tour) { t.Start, t.Dusk, t.Late = 0, 0, 2880 },
		func(t *api.Tour) { t.Start, t.Dusk, t.Late = 0, 2880, 2880 },
		func(t *api.Tour) { t.From, t.To = 3, 3 },
		func(t *api.Tour) { t.From, t.To = 0, 3 },
		func(t *api.Tour) { t.Id = 0 },
		func(t *api.Tour) { t.Id = api.MaxBooking },
		func(t *api.Tour) { t.Villages = nil },
		func(t *api.Tour) { t.Villages = []int{} },
		func(t *api.Tour) { t.Villages = []int{0, 1, 2, 3} },
		func(t *api.Tour) { t.Villages = []int{3} },
		func(t *api.Tour) { t.Places = []int{3, 0} },
		func(t *api.Tour) { t.Messages = nil },
		func(t *api.Tour) { t.Net.Paths = nil },
	} {
		tour := exampleTour()
		change(&tour)
		if e := tours.Check(tour); e != api.OK {
			t.Errorf("Check of the valid tour %d: %d", i, e)
		}
	}
	for _, block := range blocks() {
		for i, change := range block.changes {
			tour := exampleTour()
			change(&tour)
			if e := tours.Check(tour); e != block.e {
				t.Errorf("Check of the invalid tour %d: %d, want %d", i, e, block.e)
			}
		}
	}
	if e := tours.Check(api.Tour{}); e != api.ErrNet {
		t.Errorf("Check of no tour: %d", e)
	}
}

// TestP1_errors: each function returns the first of several errors, and then
// all its other results are zero.
func TestP1_errors(t *testing.T) {
	check := func(tour api.Tour, want api.Errno) {
		t.Helper()
		for _, f := range calls {
			if results, e := f.call(tour, wrongArguments()); e != want || !isZero(results) {
				t.Errorf("%s of %+v: %v, %d, want %d", f.name, tour, results, e, want)
			}
		}
	}
	for k, block := range blocks() {
		for _, change := range block.changes {
			alone := exampleTour()
			change(&alone)
			check(alone, block.e)
			for _, later := range blocks()[k+1:] {
				for _, other := range later.changes {
					both := exampleTour()
					other(&both)
					change(&both)
					check(both, block.e)
				}
			}
		}
	}
}

// TestP1_valid: without an error all functions have results; ErrArg comes after
// all errors of the tour.
func TestP1_valid(t *testing.T) {
	for _, f := range calls {
		if _, e := f.call(exampleTour(), goodArguments()); e != api.OK {
			t.Errorf("%s: %d", f.name, e)
		}
		if results, e := f.call(exampleTour(), wrongArguments()); f.uses != "" && (e != api.ErrArg || !isZero(results)) {
			t.Errorf("%s: %v, %d, want %d", f.name, results, e, api.ErrArg)
		}
	}
}

// TestP1_arguments: each number that is none of the tour, and each itinerary
// that is none, before ErrNone and ErrMany.
func TestP1_arguments(t *testing.T) {
	// Nobody can go anywhere here, so that ErrNone would come next.
	tour := exampleTour()
	tour.Net.Paths = nil
	outside := map[string][]int{
		"hut":   {-1, 2, math.MinInt, math.MaxInt},
		"night": {-1, 4, math.MinInt, math.MaxInt},
		"from":  {-1, 4, math.MinInt, math.MaxInt},
		"to":    {-1, 4, math.MinInt, math.MaxInt},
		"id":    {-1, api.MaxBooking + 1, math.MinInt, math.MaxInt, 5, 3, 8, 9},
	}
	itineraries := [][]int{{-1}, {2}, {0, 2}, {0, 0, 0, -1}, {math.MinInt}, {math.MaxInt, 0}, {0, 0, 0, 0, 0}, make([]int, 1000), {0, 0, 0, 0, 2}}
	for _, f := range calls {
		var wrong []arguments
		for name, values := range outside {
			for _, x := range values {
				a := goodArguments()
				*map[string]*int{"hut": &a.hut, "night": &a.night, "from": &a.from, "to": &a.to, "id": &a.id}[name] = x
				if slices.Contains(strings.Fields(f.uses), name) {
					wrong = append(wrong, a)
				}
			}
		}
		for _, huts := range itineraries {
			if strings.Contains(f.uses, "huts") {
				wrong = append(wrong, arguments{huts: huts})
			}
		}
		for _, a := range wrong {
			if results, e := f.call(tour, a); e != api.ErrArg || !isZero(results) {
				t.Errorf("%s of %v: %v, %d", f.name, a, results, e)
			}
		}
	}
}

// TestP1_none: ErrNone comes after all else, and with it the other results are
// zero.
func TestP1_none(t *testing.T) {
	tour := exampleTour()
	tour.Net.Paths = nil
	want := map[string]api.Errno{"Day": api.ErrNone, "Plan": api.ErrNone, "Delays": api.ErrNone, "Escapes": api.ErrNone, "Book": api.ErrNone}
	for _, f := range calls {
		results, e := f.call(tour, goodArguments())
		if e != want[f.name] || e != api.OK && !isZero(results) {
			t.Errorf("%s: %v, %d, want %d", f.name, results, e, want[f.name])
		}
	}
}

// TestP1_memory: no argument is changed, and no result shares memory with one.
func TestP1_memory(t *testing.T) {
	tour := exampleTour()
	tour.Id = 9
	for _, f := range calls {
		given, a := copyTour(tour), goodArguments()
		results, _ := f.call(given, a)
		for _, x := range results {
			spoil(x)
		}
		if !reflect.DeepEqual(given, tour) || !reflect.DeepEqual(a, goodArguments()) {
			t.Errorf("%s changes an argument: %+v, %v", f.name, given, a)
		}
		again, _ := f.call(given, a)
		fresh, _ := f.call(copyTour(tour), goodArguments())
		if !reflect.DeepEqual(again, fresh) {
			t.Errorf("%s keeps something: %v, %v", f.name, again, fresh)
		}
	}
}

// spoil overwrites the elements of a result.
func spoil(x any) {
	switch l := x.(type) {
	case []int:
		for i := range l {
			l[i] = -7
		}
	case [][2]int:
		for i := range l {
			l[i] = [2]int{-7, -7}
		}
	case api.Message:
		for i := range l.Stays {
			l.Stays[i] = stay(-7, -7, -7)
		}
	}
}

// TestP1_any: no function panics, and each terminates, for wild arguments.
func TestP1_any(t *testing.T) {
	r := rand.New(rand.NewSource(1))
	values := []int{math.MinInt, -2, -1, 0, 0, 1, 1, 2, 3, 4, 5, 20, 21, 80, 81, 99, 100, 2880, 2881, math.MaxInt}
	number := func() int { return values[r.Intn(len(values))] }
	for range 3000 {
		tour := exampleTour()
		for range r.Intn(4) {
			field := []*int{
				&tour.People, &tour.Strangers, &tour.Start, &tour.Dusk, &tour.Late, &tour.From, &tour.To, &tour.Id,
				&tour.Net.Places, &tour.Net.Paths[0].To, &tour.Net.Paths[1].Time.High, &tour.Party.Grade, &tour.Party.Pace.High, &tour.Party.Load,
				&tour.Chain.Nights, &tour.Chain.Huts[0].Beds, &tour.Chain.Huts[1].Emergency,
				&tour.Messages[1].Id, &tour.Messages[1].People, &tour.Messages[1].Stays[0].Hut, &tour.Messages[0].Kind,
				&tour.Places[0], &tour.Places[1], &tour.Villages[0],
			}
			*field[r.Intn(len(field))] = number()
		}
		for _, f := range calls {
			f.call(tour, arguments{number(), number(), number(), number(), number(), []int{number(), number()}[:r.Intn(3)]})
		}
	}
	for _, f := range calls {
		f.call(api.Tour{}, arguments{})
		f.call(api.Tour{Net: api.Net{Places: math.MaxInt}, Chain: api.Chain{Nights: math.MaxInt}}, arguments{})
	}
}
