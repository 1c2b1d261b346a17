package paths_test

import (
	"math"
	"reflect"
	"slices"
	"strings"
	"testing"

	"bivouac/api"
	"bivouac/paths"
)

// calls are all functions of the package, each with its arguments in a common
// form; each returns the other results, and the error.
var calls = []struct {
	name string
	call func(n api.Net, p api.Party, a arguments) ([]any, api.Errno)
	// uses tells which of the arguments the function has.
	uses string
}{
	{"Walk", func(n api.Net, p api.Party, a arguments) ([]any, api.Errno) {
		s, e := paths.Walk(n, p, a.path)
		return []any{s}, e
	}, "path"},
	{"Arrive", func(n api.Net, p api.Party, a arguments) ([]any, api.Errno) {
		sure, best, e := paths.Arrive(n, p, a.from, a.start)
		return []any{sure, best}, e
	}, "from start"},
	{"Route", func(n api.Net, p api.Party, a arguments) ([]any, api.Errno) {
		route, arrival, e := paths.Route(n, p, a.from, a.start, a.to)
		return []any{route, arrival}, e
	}, "from start to"},
	{"Latest", func(n api.Net, p api.Party, a arguments) ([]any, api.Errno) {
		latest, e := paths.Latest(n, p, a.from, a.to, a.deadline)
		return []any{latest}, e
	}, "from to deadline"},
	{"Vital", func(n api.Net, p api.Party, a arguments) ([]any, api.Errno) {
		vital, e := paths.Vital(n, p, a.from, a.start, a.to, a.deadline)
		return []any{vital}, e
	}, "from start to deadline"},
	{"Within", func(n api.Net, p api.Party, a arguments) ([]any, api.Errno) {
		sure, may, e := paths.Within(n, p, a.from, a.start, a.deadline)
		return []any{sure, may}, e
	}, "from start deadline"},
	{"Turn", func(n api.Net, p api.Party, a arguments) ([]any, api.Errno) {
		k, e := paths.Turn(n, p, a.route, a.from, a.start, a.to, a.deadline)
		return []any{k}, e
	}, "route from start to deadline"},
}

type arguments struct {
	path, from, start, to, deadline int
	route                           []int
}

func goodArguments() arguments {
	return arguments{path: 1, from: 0, start: 300, to: 3, deadline: 650, route: []int{0, 1, 2}}
}

func isZero(results []any) bool {
	return !slices.ContainsFunc(results, func(x any) bool {
		v := reflect.ValueOf(x)
		return !v.IsZero() && (v.Kind() != reflect.Slice || v.Len() > 0)
	})
}

// badNets are changes, each of which makes the net N invalid.
func badNets() []func(n *api.Net) {
	return []func(n *api.Net){
		func(n *api.Net) { n.Places = 0 },
		func(n *api.Net) { n.Places = -1 },
		func(n *api.Net) { n.Places = api.MaxPlaces + 1 },
		func(n *api.Net) { n.Places = math.MaxInt },
		func(n *api.Net) { n.Places = 3 },
		func(n *api.Net) { n.Paths = slices.Repeat(n.Paths[:1], api.MaxPaths+1) },
		func(n *api.Net) { n.Paths[4].From = -1 },
		func(n *api.Net) { n.Paths[4].From = 4 },
		func(n *api.Net) { n.Paths[4].From = math.MinInt },
		func(n *api.Net) { n.Paths[4].To = -1 },
		func(n *api.Net) { n.Paths[4].To = 4 },
		func(n *api.Net) { n.Paths[4].To = 3 },
		func(n *api.Net) { n.Paths[4].Grade = 0 },
		func(n *api.Net) { n.Paths[4].Grade = api.MaxGrade + 1 },
		func(n *api.Net) { n.Paths[4].Time = span(0, 5) },
		func(n *api.Net) { n.Paths[4].Time = span(5, 4) },
		func(n *api.Net) { n.Paths[4].Time = span(5, api.MaxTime+1) },
		func(n *api.Net) { n.Paths[4].Snow = span(-1, 5) },
		func(n *api.Net) { n.Paths[4].Snow = span(5, 4) },
		func(n *api.Net) { n.Paths[4].Snow = span(5, api.MaxSnow+1) },
		func(n *api.Net) { n.Paths[2].Opens[0] = span(-1, 5) },
		func(n *api.Net) { n.Paths[2].Opens[0] = span(5, 4) },
		func(n *api.Net) { n.Paths[2].Opens[0] = span(5, api.MaxMinute+1) },
		func(n *api.Net) { n.Paths[2].Opens = append(n.Paths[2].Opens, span(9, 8)) },
		func(n *api.Net) { n.Paths[2].Opens = make([]api.Span, api.MaxOpens+1) },
	}
}

func badParties() []api.Party {
	return []api.Party{
		{},
		{Grade: 0, Pace: span(100, 100)},
		{Grade: api.MaxGrade + 1, Pace: span(100, 100)},
		{Grade: 3, Pace: span(49, 100)},
		{Grade: 3, Pace: span(100, 301)},
		{Grade: 3, Pace: span(100, 99)},
		{Grade: 3, Pace: span(math.MinInt, math.MaxInt)},
		{Grade: 3, Pace: span(100, 100), Load: -1},
		{Grade: 3, Pace: span(100, 100), Load: api.MaxLoad + 1},
	}
}

// TestP1_1_Check: valid nets at all limits, and each way not to be valid.
func TestP1_1_Check(t *testing.T) {
	full := easy(0, 11, 1, api.MaxTime)
	full.Grade, full.Snow, full.Opens = api.MaxGrade, span(0, api.MaxSnow), slices.Repeat(always(), api.MaxOpens)
	for i, n := range []api.Net{
		exampleNet(),
		{Places: 1},
		{Places: 1, Paths: []api.Path{}},
		{Places: api.MaxPlaces, Paths: slices.Repeat([]api.Path{full}, api.MaxPaths)},
		{Places: 2, Paths: []api.Path{opens(easy(0, 1, 1, 1))}},
		{Places: 2, Paths: []api.Path{opens(easy(1, 0, 600, 600), span(2880, 2880), span(0, 0))}},
	} {
		if e := paths.Check(n); e != api.OK {
			t.Errorf("Check of the valid net %d: %d", i, e)
		}
	}
	for i, change := range badNets() {
		n := exampleNet()
		change(&n)
		if e := paths.Check(n); e != api.ErrNet {
			t.Errorf("Check of the invalid net %d: %d", i, e)
		}
	}
	for _, places := range []int{0, -1, api.MaxPlaces + 1} {
		if e := paths.Check(api.Net{Places: places}); e != api.ErrNet {
			t.Errorf("Check of a net of just %d places: %d", places, e)
		}
	}
}

// TestP1_errors: each function returns the first of several errors, and then
// all its other results are zero.
func TestP1_errors(t *testing.T) {
	wrong := arguments{path: 5, from: 4, start: -1, to: -1, deadline: 2881, route: []int{9}}
	check := func(name string, i int, results []any, e, want api.Errno) {
		t.Helper()
		if e != want || !isZero(results) {
			t.Errorf("%s %d: %v, %d, want %d", name, i, results, e, want)
		}
	}
	for _, f := range calls {
		if _, e := f.call(exampleNet(), exampleParty(), goodArguments()); e != api.OK {
			t.Errorf("%s: %d", f.name, e)
		}
		for i, change := range badNets() {
			n := exampleNet()
			change(&n)
			results, e := f.call(n, api.Party{}, wrong)
			check(f.name, i, results, e, api.ErrNet)
		}
		for i, p := range badParties() {
			results, e := f.call(exampleNet(), p, wrong)
			check(f.name, i, results, e, api.ErrParty)
		}
		results, e := f.call(exampleNet(), exampleParty(), wrong)
		check(f.name, 0, results, e, api.ErrArg)
	}
}

// TestP1_arguments: each place, path and minute is checked, before the route is
// and before ErrNone.
func TestP1_arguments(t *testing.T) {
	outside := map[string][]int{
		"path":     {-1, 5, math.MinInt, math.MaxInt},
		"from":     {-1, 4, math.MinInt, math.MaxInt},
		"to":       {-1, 4, math.MinInt, math.MaxInt},
		"start":    {-1, api.MaxMinute + 1, math.MinInt, math.MaxInt},
		"deadline": {-1, api.MaxMinute + 1, math.MinInt, math.MaxInt},
	}
	set := map[string]func(a *arguments, x int){
		"path":     func(a *arguments, x int) { a.path = x },
		"from":     func(a *arguments, x int) { a.from = x },
		"to":       func(a *arguments, x int) { a.to = x },
		"start":    func(a *arguments, x int) { a.start = x },
		"deadline": func(a *arguments, x int) { a.deadline = x },
	}
	// Nothing can be walked here, so that ErrNone or ErrRoute would come next.
	n := exampleNet()
	for i := range n.Paths {
		n.Paths[i].Grade = 6
	}
	for _, f := range calls {
		for name, values := range outside {
			if !slices.Contains(strings.Fields(f.uses), name) {
				continue
			}
			for _, x := range values {
				a := goodArguments()
				set[name](&a, x)
				if results, e := f.call(n, exampleParty(), a); e != api.ErrArg || !isZero(results) {
					t.Errorf("%s with %s %d: %v, %d", f.name, name, x, results, e)
				}
			}
		}
	}
}

// TestP1_none: ErrNone comes last, and with it all other results are zero.
func TestP1_none(t *testing.T) {
	n := exampleNet()
	for i := range n.Paths {
		n.Paths[i].Grade = 6
	}
	want := map[string]api.Errno{
		"Walk": api.ErrNone, "Arrive": api.OK, "Route": api.ErrNone, "Latest": api.ErrNone,
		"Vital": api.ErrNone, "Within": api.OK, "Turn": api.ErrRoute,
	}
	for _, f := range calls {
		results, e := f.call(n, exampleParty(), goodArguments())
		if e != want[f.name] || e != api.OK && !isZero(results) {
			t.Errorf("%s: %v, %d, want %d", f.name, results, e, want[f.name])
		}
	}
}

// TestP1_memory: no argument is changed, and no two results share memory.
func TestP1_memory(t *testing.T) {
	for _, f := range calls {
		n, p, a := exampleNet(), exampleParty(), goodArguments()
		first, _ := f.call(n, p, a)
		for _, x := range first {
			if l, ok := x.([]int); ok {
				for i := range l {
					l[i] = -7
				}
			}
		}
		if !reflect.DeepEqual(n, exampleNet()) || !reflect.DeepEqual(a, goodArguments()) {
			t.Errorf("%s changes an argument: %v, %v", f.name, n, a)
		}
	}
	sure, best, _ := paths.Arrive(exampleNet(), exampleParty(), 0, 300)
	sure[0] = -7
	if best[0] != 300 {
		t.Error("the results of Arrive share memory")
	}
	reached, may, _ := paths.Within(exampleNet(), exampleParty(), 0, 300, 900)
	reached[0] = -7
	if may[0] != 0 {
		t.Error("the results of Within share memory")
	}
}

// TestP1_any: no function panics, and each terminates, for wild arguments; also
// nil and empty slices are the same.
func TestP1_any(t *testing.T) {
	values := []int{math.MinInt, -1, 0, 1, 3, 4, 2880, 2881, math.MaxInt}
	nets := []api.Net{{}, {Places: math.MaxInt}, {Places: 1}, {Places: 4, Paths: []api.Path{}}, exampleNet()}
	for _, f := range calls {
		for _, n := range nets {
			for _, x := range values {
				for _, y := range values {
					f.call(n, exampleParty(), arguments{x, y, x, y, x, []int{x, y}})
					f.call(n, api.Party{Grade: x, Load: y, Pace: span(x, y)}, arguments{y, x, y, y, x, nil})
				}
			}
		}
	}
}
