package ropes_test

import (
	"math"
	"math/rand"
	"reflect"
	"slices"
	"strings"
	"testing"

	"bivouac/api"
	"bivouac/ropes"
)

// arguments are all that the functions of the package have.
type arguments struct {
	m            api.Model
	r            api.Rope
	day          int
	points       []api.Span
	load, spare  int
	o            api.Outing
	posts        []api.Post
	limit, years int
}

// calls are all functions of the package; each returns the other results, and the
// error.
var calls = []struct {
	name string
	call func(a arguments) ([]any, api.Errno)
	// uses tells what can be wrong with the arguments.
	uses string
}{
	{"Damage", func(a arguments) ([]any, api.Errno) {
		s, e := ropes.Damage(a.m, a.r, a.day)
		return []any{s}, e
	}, "model rope day"},
	{"Fit", func(a arguments) ([]any, api.Errno) {
		sure, may, e := ropes.Fit(a.m, a.r, a.day)
		return []any{sure, may}, e
	}, "model rope day"},
	{"Until", func(a arguments) ([]any, api.Errno) {
		day, e := ropes.Until(a.m, a.r)
		return []any{day}, e
	}, "model rope"},
	{"Holds", func(a arguments) ([]any, api.Errno) {
		sure, may, e := ropes.Holds(a.points, a.load)
		return []any{sure, may}, e
	}, "points load"},
	{"Spare", func(a arguments) ([]any, api.Errno) {
		spare, e := ropes.Spare(a.points, a.load)
		return []any{spare}, e
	}, "points load"},
	{"Choose", func(a arguments) ([]any, api.Errno) {
		l, e := ropes.Choose(a.points, a.load, a.spare)
		return []any{l}, e
	}, "points load spare choice"},
	{"Check", func(a arguments) ([]any, api.Errno) { return nil, ropes.Check(a.o) }, "model2 rope2 outing"},
	{"Teams", func(a arguments) ([]any, api.Errno) {
		guides, tied, e := ropes.Teams(a.o)
		return []any{guides, tied}, e
	}, "model2 rope2 outing teams"},
	{"Guides", func(a arguments) ([]any, api.Errno) {
		count, e := ropes.Guides(a.o)
		return []any{count}, e
	}, "model2 rope2 outing teams"},
	{"Level", func(a arguments) ([]any, api.Errno) {
		years, e := ropes.Level(a.posts, a.limit)
		return []any{years}, e
	}, "posts limit"},
	{"Prop", func(a arguments) ([]any, api.Errno) {
		l, e := ropes.Prop(a.posts, a.limit, a.years)
		return []any{l}, e
	}, "posts limit years"},
}

// steps are the errors in their order: what makes an argument wrong, and the error.
var steps = []struct {
	name  string
	spoil func(a *arguments)
	e     api.Errno
}{
	{"model", func(a *arguments) { a.m.Bears = -1 }, api.ErrModel},
	{"model2", func(a *arguments) { a.o.Model.Wears[1].Factor = 30 }, api.ErrModel},
	{"rope", func(a *arguments) { a.r.Length = 0 }, api.ErrRope},
	{"rope2", func(a *arguments) { a.o.Ropes[1].Length = 101 }, api.ErrRope},
	{"outing", func(a *arguments) { a.o.Clients[2] = 0 }, api.ErrOuting},
	{"points", func(a *arguments) { a.points[2].Low = 10 }, api.ErrPoints},
	{"posts", func(a *arguments) { a.posts[1].At = 6000 }, api.ErrPosts},
	{"day", func(a *arguments) { a.day = -1 }, api.ErrArg},
	{"load", func(a *arguments) { a.load = 5001 }, api.ErrArg},
	{"spare", func(a *arguments) { a.spare = 9 }, api.ErrArg},
	{"limit", func(a *arguments) { a.limit = 1001 }, api.ErrArg},
	{"years", func(a *arguments) { a.years = 101 }, api.ErrArg},
	{"choice", func(a *arguments) { a.load = 5000 }, api.ErrNone},
	{"teams", func(a *arguments) { a.o.Guides[2].Points = 2 }, api.ErrNone},
}

// hasStep reports whether a function can find the error of a step.
func hasStep(uses, step string) bool { return slices.Contains(strings.Fields(uses), step) }

// goodArguments are arguments with which no function has an error.
func goodArguments() arguments {
	return arguments{
		m: exampleM(), r: exampleR(), day: 300, points: exampleA(), load: 8, spare: 1,
		o: exampleO(), posts: exampleP(), limit: 10, years: 5,
	}
}

func isZero(results []any) bool {
	return !slices.ContainsFunc(results, func(x any) bool {
		v := reflect.ValueOf(x)
		return !v.IsZero() && (v.Kind() != reflect.Slice || v.Len() > 0)
	})
}

// check calls all functions that can find the error of a step, with changed
// arguments.
func check(t *testing.T, what string, i int, step string, change func(a *arguments), want api.Errno) {
	t.Helper()
	for _, f := range calls {
		if !hasStep(f.uses, step) {
			continue
		}
		a := goodArguments()
		change(&a)
		if results, e := f.call(a); e != want || e != api.OK && !isZero(results) {
			t.Errorf("%s with %s %d: %v, %d, want %d", f.name, what, i, results, e, want)
		}
	}
}

// TestP1_order: each function returns the first of several errors, and then all its
// other results are zero. From some step on all that a function has is wrong.
func TestP1_order(t *testing.T) {
	for _, f := range calls {
		for first := range len(steps) + 1 {
			a, want := goodArguments(), api.OK
			for i := len(steps) - 1; i >= first; i-- {
				if hasStep(f.uses, steps[i].name) {
					steps[i].spoil(&a)
					want = steps[i].e
				}
			}
			if results, e := f.call(a); e != want || e != api.OK && !isZero(results) {
				t.Errorf("%s with errors from %d on: %v, %d, want %d", f.name, first, results, e, want)
			}
		}
	}
}

// TestP1_pairs: so it is with any one error, and any two.
func TestP1_pairs(t *testing.T) {
	for i, one := range steps {
		check(t, "wrong "+one.name, i, one.name, one.spoil, one.e)
		for _, two := range steps[i+1:] {
			for _, f := range calls {
				if !hasStep(f.uses, one.name) || !hasStep(f.uses, two.name) {
					continue
				}
				a := goodArguments()
				two.spoil(&a)
				one.spoil(&a)
				if results, e := f.call(a); e != one.e || !isZero(results) {
					t.Errorf("%s with wrong %s and %s: %v, %d, want %d", f.name, one.name, two.name, results, e, one.e)
				}
			}
		}
	}
}

// wild are numbers that are never valid.
var wild = []int{math.MinInt, math.MaxInt, math.MinInt + 1, math.MaxInt - 1}

// checkNumber asks with a number at its limits, and outside of them.
func checkNumber(t *testing.T, what, step string, low, high int, e api.Errno, field func(a *arguments) *int) {
	t.Helper()
	for _, x := range append([]int{low - 1, high + 1}, wild...) {
		check(t, what, x, step, func(a *arguments) { *field(a) = x }, e)
	}
	for _, x := range []int{low, high} {
		check(t, what, x, step, func(a *arguments) { *field(a) = x }, api.OK)
	}
}

// checkSpan asks with a span at its limits, and outside of them.
func checkSpan(t *testing.T, what, step string, low, high int, e api.Errno, field func(a *arguments) *api.Span) {
	t.Helper()
	for i, s := range []api.Span{
		span(low-1, high), span(low, high+1), span(low+1, low), span(high, high-1), span(high+1, high+1), span(low-1, low-1), span(high, low),
		span(math.MinInt, high), span(low, math.MaxInt), span(math.MaxInt, math.MinInt), span(math.MinInt, math.MaxInt), exact(math.MaxInt), exact(math.MinInt),
	} {
		check(t, what, i, step, func(a *arguments) { *field(a) = s }, e)
	}
	for i, s := range []api.Span{exact(low), exact(high), span(low, high)} {
		check(t, what, i, step, func(a *arguments) { *field(a) = s }, api.OK)
	}
}

// TestP1_models: models at their limits, and outside of them; in an outing, too.
func TestP1_models(t *testing.T) {
	for i, step := range []string{"model", "model2"} {
		// nobody is led, so that there are teams without ropes
		model := func(a *arguments) *api.Model { a.o.Clients = nil; return []*api.Model{&a.m, &a.o.Model}[i] }
		checkNumber(t, "the Shelf", step, 1, 10000, api.ErrModel, func(a *arguments) *int { return &model(a).Shelf })
		checkNumber(t, "the Use", step, 1, 10000, api.ErrModel, func(a *arguments) *int { return &model(a).Use })
		checkNumber(t, "Bears", step, 0, 100, api.ErrModel, func(a *arguments) *int { return &model(a).Bears })
		checkNumber(t, "the first Factor", step, 1, 99, api.ErrModel, func(a *arguments) *int { return &model(a).Wears[0].Factor })
		checkNumber(t, "the middle Factor", step, 31, 169, api.ErrModel, func(a *arguments) *int { return &model(a).Wears[1].Factor })
		checkNumber(t, "the last Factor", step, 101, 200, api.ErrModel, func(a *arguments) *int { return &model(a).Wears[2].Factor })
		checkNumber(t, "the first Damage", step, 0, 4, api.ErrModel, func(a *arguments) *int { return &model(a).Wears[0].Damage })
		checkNumber(t, "the middle Damage", step, 1, 10, api.ErrModel, func(a *arguments) *int { return &model(a).Wears[1].Damage })
		checkNumber(t, "the last Damage", step, 4, 100, api.ErrModel, func(a *arguments) *int { return &model(a).Wears[2].Damage })
		six := []api.Wear{wear(1, 0), wear(2, 0), wear(3, 0), wear(4, 1), wear(5, 1), wear(200, 1)}
		for j, x := range []struct {
			wears []api.Wear
			e     api.Errno
		}{
			{nil, api.OK}, {[]api.Wear{}, api.OK}, {six, api.OK}, {six[:1], api.OK}, {slices.Insert(slices.Clone(six), 5, wear(6, 1)), api.ErrModel}, {make([]api.Wear, 1000), api.ErrModel},
			{[]api.Wear{wear(5, 1), wear(5, 1)}, api.ErrModel}, {[]api.Wear{wear(5, 1), wear(5, 2)}, api.ErrModel}, {[]api.Wear{wear(5, 2), wear(6, 1)}, api.ErrModel}, {[]api.Wear{wear(6, 1), wear(5, 2)}, api.ErrModel}, {[]api.Wear{{}}, api.ErrModel},
		} {
			check(t, "the wears", j, step, func(a *arguments) { model(a).Wears = x.wears }, x.e)
		}
		check(t, "no model", 0, step, func(a *arguments) { *model(a) = api.Model{} }, api.ErrModel)
		check(t, "nothing at all", 0, step, func(a *arguments) { *a = arguments{} }, api.ErrModel)
	}
}

// TestP1_ropes: ropes at their limits, and outside of them; in an outing, too, at any
// position.
func TestP1_ropes(t *testing.T) {
	for i, step := range []string{"rope", "rope2"} {
		rope := func(a *arguments) *api.Rope { return []*api.Rope{&a.r, &a.o.Ropes[0]}[i] }
		// those who are led by nobody need no rope
		bare := func(change func(r *api.Rope)) func(a *arguments) {
			return func(a *arguments) {
				a.o.Clients, a.day = nil, 400
				change(rope(a))
			}
		}
		checkNumber(t, "Made", step, 0, 100, api.ErrRope, func(a *arguments) *int { return &rope(a).Made })
		checkNumber(t, "First", step, 0, 200, api.ErrRope, func(a *arguments) *int { return &rope(a).First })
		checkNumber(t, "the Length", step, 1, 100, api.ErrRope, func(a *arguments) *int { a.o.Clients = nil; return &rope(a).Length })
		checkNumber(t, "the Day of the first fall", step, 100, 300, api.ErrRope, func(a *arguments) *int { return &rope(a).Falls[0].Day })
		checkNumber(t, "the Day of the last fall", step, 200, 99999, api.ErrRope, func(a *arguments) *int { return &rope(a).Falls[1].Day })
		for j := range 2 {
			checkSpan(t, "the Height", step, 1, 1000, api.ErrRope, func(a *arguments) *api.Span { a.o.Clients = nil; return &rope(a).Falls[j].Height })
			checkSpan(t, "the length Out", step, 1, 1000, api.ErrRope, func(a *arguments) *api.Span { a.o.Clients = nil; return &rope(a).Falls[j].Out })
		}
		light := fall(300, exact(1), exact(1000))
		for j, x := range []struct {
			change func(r *api.Rope)
			e      api.Errno
		}{
			{func(r *api.Rope) { r.Falls = nil }, api.OK}, {func(r *api.Rope) { r.Falls = []api.Fall{} }, api.OK}, {func(r *api.Rope) { r.First, r.Falls = -1, nil }, api.OK}, {func(r *api.Rope) { r.First = -1 }, api.ErrRope}, {func(r *api.Rope) { r.First, r.Falls = -1, r.Falls[:1] }, api.ErrRope}, {func(r *api.Rope) { r.First, r.Falls = -2, nil }, api.ErrRope},
			{func(r *api.Rope) { r.First, r.Falls[0].Day = -1, -1 }, api.ErrRope},
			{func(r *api.Rope) { r.Made, r.First = 100, 100 }, api.OK}, {func(r *api.Rope) { r.Made, r.First = 101, 100 }, api.ErrRope}, {func(r *api.Rope) { r.First, r.Falls = 99999, nil }, api.OK}, {func(r *api.Rope) { r.First, r.Falls = 100000, nil }, api.ErrRope}, {func(r *api.Rope) { r.Made, r.First, r.Falls = 100000, -1, nil }, api.ErrRope}, {func(r *api.Rope) { r.Made, r.First, r.Falls = -1, -1, nil }, api.ErrRope},
			{func(r *api.Rope) { r.Falls = slices.Repeat([]api.Fall{light}, 10) }, api.OK}, {func(r *api.Rope) { r.Falls = slices.Repeat([]api.Fall{light}, 11) }, api.ErrRope}, {func(r *api.Rope) { r.Falls = make([]api.Fall, 1000) }, api.ErrRope}, {func(r *api.Rope) { slices.Reverse(r.Falls) }, api.ErrRope}, {func(r *api.Rope) { r.Falls = append(r.Falls, fall(299, exact(1), exact(1))) }, api.ErrRope}, {func(r *api.Rope) { r.Falls = append(r.Falls, light) }, api.OK},
			{func(r *api.Rope) { *r = api.Rope{} }, api.ErrRope},
		} {
			check(t, "the changed rope", j, step, bare(x.change), x.e)
		}
	}
	for at := range 3 {
		spoil := func(a *arguments) { a.o.Ropes = slices.Insert(a.o.Ropes, at, api.Rope{First: -1}) }
		check(t, "an invalid rope at", at, "rope2", spoil, api.ErrRope)
	}
	// an invalid rope among too many of them
	check(t, "many ropes and an invalid one", 0, "rope2", func(a *arguments) { a.o.Ropes = slices.Concat(slices.Repeat(a.o.Ropes[1:], 9), []api.Rope{{}}) }, api.ErrRope)
}

// TestP1_days: the days of Damage and Fit.
func TestP1_days(t *testing.T) {
	checkNumber(t, "the day", "day", 0, 99999, api.ErrArg, func(a *arguments) *int { return &a.day })
	checkNumber(t, "the day", "day", 77, 99999, api.ErrArg, func(a *arguments) *int { a.r.Made = 77; return &a.day })
	checkNumber(t, "the day", "day", 99999, 99999, api.ErrArg, func(a *arguments) *int {
		a.r = api.Rope{Made: api.MaxDay, First: -1, Length: 1}
		return &a.day
	})
}

// TestP1_anchors: points and loads at their limits, and outside of them.
func TestP1_anchors(t *testing.T) {
	for at := range 3 {
		checkSpan(t, "the strength", "load", 0, 5000, api.ErrPoints, func(a *arguments) *api.Span {
			a.points, a.load, a.spare = slices.Concat(a.points, []api.Span{exact(9), exact(9), exact(9)}), 8, 0
			return &a.points[at]
		})
	}
	for _, count := range []int{9, 10, 1000} {
		check(t, "so many points", count, "points", func(a *arguments) { a.points = slices.Repeat(a.points[:1], count) }, api.ErrPoints)
	}
	check(t, "so many points", 8, "points", func(a *arguments) { a.points = slices.Repeat(a.points[:1], 8) }, api.OK)
	checkNumber(t, "the load", "load", 1, 5000, api.ErrArg, func(a *arguments) *int {
		a.points, a.spare = []api.Span{exact(5000)}, 0
		return &a.load
	})
	for i, x := range []struct {
		spare int
		e     api.Errno
	}{{0, api.OK}, {7, api.OK}, {8, api.ErrNone}, {9, api.ErrArg}, {-1, api.ErrArg}, {math.MinInt, api.ErrArg}, {math.MaxInt, api.ErrArg}} {
		check(t, "the spare", i, "spare", func(a *arguments) { a.points, a.spare = slices.Repeat([]api.Span{exact(5000)}, 8), x.spare }, x.e)
	}
	for i, points := range [][]api.Span{nil, {}} {
		check(t, "no points", i, "choice", func(a *arguments) { a.points = points }, api.ErrNone)
		check(t, "no points, and a load of 0", i, "load", func(a *arguments) { a.points, a.load = points, 0 }, api.ErrArg)
	}
}

// TestP9_7_outings: outings at their limits, and outside of them.
func TestP9_7_outings(t *testing.T) {
	// nobody is led, so that there are teams whatever the guides may
	bare := func(field func(o *api.Outing) *int) func(a *arguments) *int {
		return func(a *arguments) *int { a.o.Clients = nil; return field(&a.o) }
	}
	checkNumber(t, "the Day", "outing", 300, 99999, api.ErrOuting, bare(func(o *api.Outing) *int { return &o.Day }))
	checkNumber(t, "the Day", "outing", 0, 99999, api.ErrOuting, bare(func(o *api.Outing) *int { o.Ropes = o.Ropes[:1]; return &o.Day }))
	checkNumber(t, "the Day", "outing", 0, 99999, api.ErrOuting, bare(func(o *api.Outing) *int { o.Ropes = nil; return &o.Day }))
	checkNumber(t, "the Grade", "outing", 1, 6, api.ErrOuting, bare(func(o *api.Outing) *int { return &o.Grade }))
	checkNumber(t, "the Spacing", "outing", 1, 100, api.ErrOuting, bare(func(o *api.Outing) *int { return &o.Spacing }))
	for i := range 3 {
		checkNumber(t, "the Grade of a guide", "outing", 1, 6, api.ErrOuting, bare(func(o *api.Outing) *int { return &o.Guides[i].Grade }))
		checkNumber(t, "Until", "outing", 0, 99999, api.ErrOuting, bare(func(o *api.Outing) *int { return &o.Guides[i].Until }))
		checkNumber(t, "the Points", "outing", 0, 20, api.ErrOuting, bare(func(o *api.Outing) *int { return &o.Guides[i].Points }))
		checkNumber(t, "the points of a client", "outing", 1, 20, api.ErrOuting, func(a *arguments) *int {
			a.o = guided([]int{20, 20, 20}, []int{1, 1, 1}, 9, 9, 9)
			return &a.o.Clients[i]
		})
	}
	for i, x := range []struct {
		change func(o *api.Outing)
		e      api.Errno
	}{
		{func(o *api.Outing) { o.Guides = slices.Repeat(o.Guides, 2)[:4] }, api.OK}, {func(o *api.Outing) { o.Guides = slices.Repeat(o.Guides, 2)[:5] }, api.ErrOuting}, {func(o *api.Outing) { o.Guides = make([]api.Guide, 1000) }, api.ErrOuting},
		{func(o *api.Outing) { *o = guided([]int{20}, []int{1, 1, 1, 1, 1, 1}, 9) }, api.OK}, {func(o *api.Outing) { *o = guided([]int{20}, []int{1, 1, 1, 1, 1, 1, 1}, 9) }, api.ErrOuting}, {func(o *api.Outing) { o.Clients = slices.Repeat([]int{1}, 1000) }, api.ErrOuting},
		{func(o *api.Outing) { o.Ropes = slices.Repeat(o.Ropes, 3) }, api.OK}, {func(o *api.Outing) { o.Ropes = slices.Repeat(o.Ropes, 4)[:7] }, api.ErrOuting}, {func(o *api.Outing) { o.Ropes = slices.Repeat(o.Ropes, 500) }, api.ErrOuting},
		{func(o *api.Outing) { o.Ropes = append(o.Ropes, api.Rope{Made: 400, First: -1, Length: 1}) }, api.OK}, {func(o *api.Outing) { o.Ropes = append(o.Ropes, api.Rope{Made: 401, First: -1, Length: 1}) }, api.ErrOuting}, {func(o *api.Outing) {
			o.Ropes = slices.Insert(o.Ropes, 0, api.Rope{Made: 99999, First: 99999, Length: 1})
		}, api.ErrOuting},
		{func(o *api.Outing) { o.Ropes = append(o.Ropes, api.Rope{Made: 400, First: 500, Length: 1}) }, api.OK},
		{func(o *api.Outing) { *o = api.Outing{Model: exampleM()} }, api.ErrOuting}, {func(o *api.Outing) { *o = api.Outing{Model: exampleM(), Grade: 1, Spacing: 1} }, api.OK},
	} {
		check(t, "the changed outing", i, "outing", func(a *arguments) { x.change(&a.o) }, x.e)
	}
}

// TestP9_7_check: Check has the errors of all steps of an outing, and no other one.
func TestP9_7_check(t *testing.T) {
	for _, step := range steps {
		a, want := goodArguments(), api.OK
		step.spoil(&a)
		if hasStep("model2 rope2 outing", step.name) {
			want = step.e
		}
		if e := ropes.Check(a.o); e != want {
			t.Errorf("Check with wrong %s: %d, want %d", step.name, e, want)
		}
	}
}

// TestP1_posts: posts, limits and years at their limits, and outside of them.
func TestP1_posts(t *testing.T) {
	checkNumber(t, "the first At", "posts", 0, 3999, api.ErrPosts, func(a *arguments) *int { return &a.posts[0].At })
	checkNumber(t, "the middle At", "posts", 1, 5999, api.ErrPosts, func(a *arguments) *int { return &a.posts[1].At })
	checkNumber(t, "the last At", "posts", 4001, 100000, api.ErrPosts, func(a *arguments) *int { return &a.posts[2].At })
	for i := range 3 {
		checkSpan(t, "Sink", "posts", 0, 100, api.ErrPosts, func(a *arguments) *api.Span { return &a.posts[i].Sink })
	}
	var row []api.Post
	for i := range 9 {
		row = append(row, post(i, 0, 0))
	}
	check(t, "so many posts", 8, "posts", func(a *arguments) { a.posts = row[:8] }, api.OK)
	check(t, "so many posts", 9, "posts", func(a *arguments) { a.posts = row }, api.ErrPosts)
	check(t, "so many posts", 1000, "posts", func(a *arguments) { a.posts = make([]api.Post, 1000) }, api.ErrPosts)
	for i, posts := range [][]api.Post{nil, {}, row[:1]} {
		check(t, "few posts", i, "posts", func(a *arguments) { a.posts = posts }, api.OK)
		check(t, "few posts and a wrong limit", i, "limit", func(a *arguments) { a.posts, a.limit = posts, -1 }, api.ErrArg)
	}
	checkNumber(t, "the limit", "limit", 0, 1000, api.ErrArg, func(a *arguments) *int { return &a.limit })
	checkNumber(t, "the years", "years", 0, 100, api.ErrArg, func(a *arguments) *int { return &a.years })
}

// spoilResults writes into all memory of results.
func spoilResults(results []any) {
	for _, x := range results {
		if l, ok := x.([]int); ok {
			l = l[:cap(l)]
			for i := range l {
				l[i] = -7
			}
		}
	}
}

// TestP1_memory: no argument is changed, no result shares memory with one or with
// another result, and nothing is kept.
func TestP1_memory(t *testing.T) {
	for _, f := range calls {
		given := goodArguments()
		first, e := f.call(given)
		if e != api.OK {
			t.Fatalf("%s: %d", f.name, e)
		}
		spoilResults(first)
		if !reflect.DeepEqual(given, goodArguments()) {
			t.Errorf("%s changes its arguments: %+v", f.name, given)
		}
		again, _ := f.call(given)
		if fresh, _ := f.call(goodArguments()); !reflect.DeepEqual(again, fresh) {
			t.Errorf("%s keeps something: %v, %v", f.name, again, fresh)
		}
	}
	guides, tied, _ := ropes.Teams(exampleO())
	spoilResults([]any{guides})
	if _, again, _ := ropes.Teams(exampleO()); !slices.Equal(tied, again) {
		t.Error("the guides and ropes of Teams share memory")
	}
}

// TestP1_capacity: what lies behind the end of a slice is neither read nor changed;
// nil and empty slices are the same.
func TestP1_capacity(t *testing.T) {
	behind := func(a arguments) arguments {
		o := &a.o
		a.m.Wears, a.r.Falls, a.points, a.posts = longer(a.m.Wears), longer(a.r.Falls), longer(a.points), longer(a.posts)
		o.Guides, o.Clients, o.Ropes, o.Model.Wears = longer(o.Guides), longer(o.Clients), longer(o.Ropes), longer(o.Model.Wears)
		return a
	}
	for _, f := range calls {
		a := behind(goodArguments())
		results, e := f.call(a)
		if want, e2 := f.call(goodArguments()); !reflect.DeepEqual(results, want) || e != e2 {
			t.Errorf("%s: %v, %d, want %v, %d", f.name, results, e, want, e2)
		}
		o := a.o
		if !isBlank(a.m.Wears) || !isBlank(a.r.Falls) || !isBlank(a.points) || !isBlank(a.posts) || !isBlank(o.Guides) || !isBlank(o.Clients) || !isBlank(o.Ropes) || !isBlank(o.Model.Wears) {
			t.Errorf("%s changes something behind the end of a slice: %+v", f.name, a)
		}
		bare, empty := goodArguments(), goodArguments()
		bare.m.Wears, bare.r.Falls, bare.points, bare.posts, bare.o = nil, nil, nil, nil, api.Outing{Grade: 1, Spacing: 1, Model: api.Model{Shelf: 1, Use: 1}}
		empty.m.Wears, empty.r.Falls, empty.points, empty.posts, empty.o = []api.Wear{}, []api.Fall{}, []api.Span{}, []api.Post{}, bare.o
		empty.o.Guides, empty.o.Clients, empty.o.Ropes, empty.o.Model.Wears = []api.Guide{}, []int{}, []api.Rope{}, []api.Wear{}
		want, e := f.call(bare)
		results, e2 := f.call(empty)
		for i := range want {
			if l, ok := want[i].([]int); ok && len(l) == 0 && len(results[i].([]int)) == 0 {
				results[i] = want[i]
			}
		}
		if !reflect.DeepEqual(results, want) || e2 != e {
			t.Errorf("%s of empty slices: %v, %d, want %v, %d", f.name, results, e2, want, e)
		}
	}
}

// longer returns a slice with a blank element behind its end.
func longer[T any](l []T) []T {
	var blank T
	return append(slices.Clone(l), blank)[:len(l)]
}

// isBlank reports whether there still is a blank element behind the end of a slice.
func isBlank[T any](l []T) bool { return reflect.ValueOf(l[:len(l)+1][len(l)]).IsZero() }

// TestP1_any: no function panics, and each terminates, for wild arguments; an outing
// that is not valid is told from one that is.
func TestP1_any(t *testing.T) {
	r := rand.New(rand.NewSource(1))
	values := []int{math.MinInt, -2, -1, 0, 0, 0, 1, 1, 2, 3, 4, 5, 8, 9, 20, 21, 100, 101, 200, 201, 300, 400, 1000, 1001, 5000, 5001, 10000, 99999, 100000, math.MaxInt}
	number := func() int { return values[r.Intn(len(values))] }
	for range 4000 {
		a := goodArguments()
		for range r.Intn(4) {
			w, w2 := &a.m.Wears[r.Intn(3)], &a.o.Model.Wears[r.Intn(3)]
			f, f2 := &a.r.Falls[r.Intn(2)], &a.o.Ropes[0].Falls[r.Intn(2)]
			x, g, p, s := &a.o.Ropes[r.Intn(2)], &a.o.Guides[r.Intn(3)], &a.points[r.Intn(3)], &a.posts[r.Intn(3)]
			field := []*int{
				&a.m.Shelf, &a.m.Use, &a.m.Bears, &w.Factor, &w.Damage, &a.r.Made, &a.r.First, &a.r.Length, &f.Day, &f.Height.Low, &f.Height.High, &f.Out.Low, &f.Out.High, &a.day,
				&p.Low, &p.High, &a.load, &a.spare, &s.At, &s.Sink.Low, &s.Sink.High, &a.limit, &a.years,
				&a.o.Model.Shelf, &a.o.Model.Use, &a.o.Model.Bears, &w2.Factor, &w2.Damage, &x.Made, &x.First, &x.Length, &f2.Day, &f2.Height.Low, &f2.Out.High,
				&a.o.Day, &a.o.Grade, &a.o.Spacing, &g.Grade, &g.Until, &g.Points, &a.o.Clients[r.Intn(3)],
			}
			*field[r.Intn(len(field))] = number()
		}
		e := ropes.Check(a.o)
		for _, f := range calls {
			results, e2 := f.call(a)
			if hasStep(f.uses, "outing") && e != api.OK && e2 != e || e2 != api.OK && !isZero(results) {
				t.Errorf("%s of %+v: %v, %d, but Check: %d", f.name, a, results, e2, e)
			}
		}
	}
}

// TestP1_full: the greatest arguments.
func TestP1_full(t *testing.T) {
	hard := fall(99999, exact(1000), exact(1))
	r := api.Rope{Made: 99999, First: 99999, Length: 100, Falls: slices.Repeat([]api.Fall{hard}, 10)}
	m := api.Model{Shelf: 10000, Use: 10000, Bears: 100, Wears: []api.Wear{wear(1, 10), wear(2, 10), wear(3, 10), wear(4, 10), wear(5, 10), wear(200, 10)}}
	if s, e := ropes.Damage(m, r, 99999); s != exact(100) || e != api.OK {
		t.Errorf("Damage = %v, %d", s, e)
	}
	if sure, may, e := ropes.Fit(m, r, 99999); !sure || !may || e != api.OK {
		t.Errorf("Fit = %t, %t, %d", sure, may, e)
	}
	if day, e := ropes.Until(m, r); day != 99999 || e != api.OK {
		t.Errorf("Until = %d, %d", day, e)
	}
	o := api.Outing{Day: 99999, Grade: 6, Spacing: 100, Model: m, Ropes: slices.Repeat([]api.Rope{r}, 6), Guides: slices.Repeat([]api.Guide{{Grade: 6, Until: 99999, Points: 20}}, 4), Clients: []int{20, 20, 20, 20}}
	if n, e := ropes.Guides(o); n != 4 || e != api.OK {
		t.Errorf("Guides = %d, %d", n, e)
	}
	o.Clients = []int{1, 1, 1, 1, 1, 1}
	if n, e := ropes.Guides(o); n != 0 || e != api.ErrNone {
		t.Errorf("Guides = %d, %d", n, e)
	}
	var posts []api.Post
	for i := range 8 {
		posts = append(posts, post(99993+i, 0, 100))
	}
	if l, e := ropes.Prop(posts, 1000, 100); len(l) != 7 || e != api.OK {
		t.Errorf("Prop = %v, %d", l, e)
	}
	if n, e := ropes.Level(posts, 1000); n != 0 || e != api.OK {
		t.Errorf("Level = %d, %d", n, e)
	}
}
