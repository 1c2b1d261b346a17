package ropes_test

import (
	"slices"
	"testing"

	"bivouac/api"
	"bivouac/ropes"
)

// TestP9_1_Damage: the examples, days around falls, factors around those of the wears,
// and sums of falls.
func TestP9_1_Damage(t *testing.T) {
	m, r := exampleM(), exampleR()
	fallen := func(height, out api.Span) api.Rope { return withFalls(r, fall(200, height, out)) }
	hard := fall(200, exact(1000), exact(1))
	for i, x := range []struct {
		m    api.Model
		r    api.Rope
		day  int
		want api.Span
	}{
		{m, r, 250, span(0, 1)}, {m, r, 300, span(1, 5)}, {m, r, 0, span(0, 0)}, {m, r, 199, span(0, 0)}, {m, r, 200, span(0, 1)}, {m, r, 299, span(0, 1)}, {m, r, api.MaxDay, span(1, 5)},
		// rounded up: 29 is 29, 29.1 is 30
		{m, fallen(exact(290), exact(1000)), 200, span(0, 0)}, {m, fallen(exact(291), exact(1000)), 200, span(1, 1)}, {m, fallen(exact(300), exact(1000)), 200, span(1, 1)},
		{m, fallen(exact(990), exact(1000)), 200, span(1, 1)}, {m, fallen(exact(991), exact(1000)), 200, span(4, 4)}, {m, fallen(exact(169), exact(100)), 200, span(4, 4)}, {m, fallen(exact(170), exact(100)), 200, span(10, 10)},
		// the least height goes with the greatest length
		{m, fallen(span(20, 30), span(40, 70)), 200, span(0, 1)}, {m, fallen(span(100, 300), span(100, 300)), 200, span(1, 10)}, {m, fallen(span(100, 100), span(100, 400)), 200, span(0, 4)}, {m, fallen(span(10, 100), span(100, 100)), 200, span(0, 4)},
		// at most MaxFactor
		{withWears(m, wear(200, 7)), fallen(exact(1000), exact(1)), 200, span(7, 7)}, {withWears(m, wear(200, 7)), fallen(exact(199), exact(100)), 200, span(0, 0)}, {withWears(m, wear(200, 7)), fallen(exact(200), exact(100)), 200, span(7, 7)},
		{withWears(m, wear(1, 3)), fallen(exact(1), exact(1000)), 200, span(3, 3)}, {withWears(m, wear(2, 3)), fallen(exact(1), exact(1000)), 200, span(0, 0)},
		{withWears(m), fallen(exact(1000), exact(1)), 200, span(0, 0)}, {withWears(m, wear(5, 2), wear(6, 2), wear(7, 9)), fallen(exact(6), exact(100)), 200, span(2, 2)},
		// more than MaxDamage, and falls on one day
		{withWears(m, wear(1, 100)), withFalls(r, slices.Repeat([]api.Fall{hard}, 10)...), 200, span(1000, 1000)}, {m, withFalls(r, hard, hard, fall(201, exact(1000), exact(1))), 200, span(20, 20)}, {m, withFalls(r, fall(100, exact(30), exact(100))), 100, span(1, 1)},
		{m, api.Rope{Made: 7, First: -1, Length: 1}, 7, span(0, 0)}, {m, api.Rope{Made: api.MaxDay, First: api.MaxDay, Length: 1}, api.MaxDay, span(0, 0)},
	} {
		if s, e := ropes.Damage(x.m, x.r, x.day); s != x.want || e != api.OK {
			t.Errorf("%d: Damage = %v, %d, want %v", i, s, e, x.want)
		}
	}
}

// TestP9_2_Fit: the examples, the last days by Shelf and by Use, and what a rope bears.
func TestP9_2_Fit(t *testing.T) {
	m, r := exampleM(), exampleR()
	young := m
	young.Shelf = 300
	shelved := api.Rope{Made: 50, First: -1, Length: 1}
	planned := api.Rope{Made: 50, First: 3000, Length: 1}
	late := api.Rope{Made: 50, First: 3699, Length: 1}
	end := api.Rope{Made: api.MaxDay, First: -1, Length: 1}
	for i, x := range []struct {
		m         api.Model
		r         api.Rope
		day       int
		sure, may bool
	}{
		{m, r, 300, true, true}, {withBears(m, 4), r, 300, false, true}, {withBears(m, 5), r, 300, true, true}, {withBears(m, 1), r, 300, false, true}, {withBears(m, 0), r, 300, false, false},
		{withBears(m, 0), r, 199, true, true}, {withBears(m, 0), r, 200, false, true}, {withBears(m, 0), r, 299, false, true}, {withBears(m, 0), r, 0, true, true},
		// after the first use
		{m, r, 1925, true, true}, {m, r, 1926, false, false}, {withBears(m, 4), r, 1925, false, true}, {withBears(m, 4), r, 1926, false, false}, {m, r, api.MaxDay, false, false},
		// after it was made
		{young, r, 300, true, true}, {young, r, 301, false, false}, {m, shelved, 3700, true, true}, {m, shelved, 3701, false, false}, {m, shelved, 50, true, true},
		// before and after it is used at a later day
		{m, planned, 50, true, true}, {m, planned, 2999, true, true}, {m, planned, 3700, true, true}, {m, planned, 3701, false, false}, {m, late, 3698, true, true}, {m, late, 3701, false, false}, {m, end, api.MaxDay, true, true},
	} {
		if sure, may, e := ropes.Fit(x.m, x.r, x.day); sure != x.sure || may != x.may || e != api.OK {
			t.Errorf("%d: Fit = %t, %t, %d, want %t, %t", i, sure, may, e, x.sure, x.may)
		}
	}
}

// TestP9_3_Until: the example, the ends by Shelf, Use and MaxDay, and -1.
func TestP9_3_Until(t *testing.T) {
	m, r := exampleM(), exampleR()
	shelf := func(days int) api.Model { m := exampleM(); m.Shelf = days; return m }
	use := func(days int) api.Model { m := exampleM(); m.Use = days; return m }
	rope := func(made, first int, falls ...api.Fall) api.Rope {
		return api.Rope{Made: made, First: first, Length: 1, Falls: falls}
	}
	light := func(day int) api.Fall { return fall(day, exact(1), exact(100)) }
	for i, x := range []struct {
		m    api.Model
		r    api.Rope
		want int
	}{
		{m, r, 1925}, {m, rope(0, -1), 3650}, {m, rope(50, -1), 3700}, {m, rope(0, 0), 1825}, {m, rope(0, 1825), 3650}, {m, rope(0, 1826), 3650}, {m, rope(0, 1824), 3649},
		{withBears(m, 5), r, 1925}, {withBears(m, 4), r, -1}, {withBears(m, 0), r, -1},
		// the last of the days Made, First and those of its falls
		{shelf(300), r, 300}, {shelf(299), r, -1}, {use(200), r, 300}, {use(199), r, -1}, {m, rope(0, 3650), 3650}, {m, rope(0, 3651), -1}, {m, rope(0, 100, light(1925)), 1925}, {m, rope(0, 100, light(1926)), -1}, {m, rope(0, 100, light(1925), light(1925)), 1925},
		{shelf(1), rope(10, -1), 11}, {use(1), rope(10, 10), 11},
		// MaxDay
		{m, rope(api.MaxDay-3650, -1), api.MaxDay}, {m, rope(api.MaxDay-3651, -1), api.MaxDay - 1}, {m, rope(api.MaxDay-3649, -1), api.MaxDay}, {m, rope(api.MaxDay, api.MaxDay), api.MaxDay}, {m, rope(0, api.MaxDay), -1},
		{m, rope(api.MaxDay-100, api.MaxDay-100, light(api.MaxDay)), api.MaxDay}, {m, rope(api.MaxDay-100, api.MaxDay-100, fall(api.MaxDay, exact(1000), exact(1))), api.MaxDay}, {withBears(m, 9), rope(api.MaxDay-100, api.MaxDay-100, fall(api.MaxDay, exact(1000), exact(1))), -1},
	} {
		if day, e := ropes.Until(x.m, x.r); day != x.want || e != api.OK {
			t.Errorf("%d: Until = %d, %d, want %d", i, day, e, x.want)
		}
	}
}

// TestP9_4_Holds: the examples, no points, and points that break one after the other.
func TestP9_4_Holds(t *testing.T) {
	a := exampleA()
	chain := []api.Span{exact(3), exact(4), exact(6), exact(12)}
	for i, x := range []struct {
		points    []api.Span
		load      int
		sure, may bool
	}{
		{a, 12, true, true}, {a, 18, false, true}, {a, 25, false, false}, {a, 13, false, true}, {a, 24, false, true}, {a, 1, true, true}, {a, api.MaxStrength, false, false},
		{nil, 1, false, false}, {[]api.Span{exact(0)}, 1, false, false}, {[]api.Span{span(0, 1)}, 1, false, true}, {[]api.Span{exact(5)}, 5, true, true}, {[]api.Span{exact(5)}, 6, false, false},
		// with 12 all hold, with 13 one after the other breaks
		{chain, 12, true, true}, {chain, 13, false, false},
		// the weak ones break, the strong ones are left
		{[]api.Span{exact(0), exact(0), exact(12)}, 12, true, true}, {[]api.Span{exact(0), exact(6), exact(6)}, 12, true, true}, {[]api.Span{exact(0), exact(5), exact(6)}, 12, false, false}, {[]api.Span{exact(12), exact(1), exact(5)}, 12, true, true},
		{slices.Repeat([]api.Span{exact(625)}, 8), 5000, true, true}, {slices.Repeat([]api.Span{exact(624)}, 8), 5000, false, false}, {slices.Repeat([]api.Span{span(624, 625)}, 8), 5000, false, true}, {[]api.Span{exact(5000)}, 5000, true, true},
	} {
		if sure, may, e := ropes.Holds(x.points, x.load); sure != x.sure || may != x.may || e != api.OK {
			t.Errorf("%d: Holds = %t, %t, %d, want %t, %t", i, sure, may, e, x.sure, x.may)
		}
	}
}

// TestP9_5_Spare: the examples, no points, and -1.
func TestP9_5_Spare(t *testing.T) {
	a := exampleA()
	for i, x := range []struct {
		points []api.Span
		load   int
		want   int
	}{
		{a, 8, 1}, {a, 12, 0}, {a, 18, -1}, {a, 4, 2}, {a, 5, 1}, {a, 9, 0}, {a, 13, -1}, {nil, 1, -1}, {nil, api.MaxStrength, -1},
		{[]api.Span{exact(0)}, 1, -1}, {[]api.Span{exact(1)}, 1, 0}, {[]api.Span{span(0, 1)}, 1, -1},
		// the best one may be missing
		{[]api.Span{exact(9), exact(1), exact(1)}, 9, 0}, {[]api.Span{exact(1), exact(9), exact(9)}, 9, 1}, {[]api.Span{exact(9), exact(9), exact(9), exact(0)}, 9, 2},
		{slices.Repeat([]api.Span{exact(5000)}, 8), 5000, 7}, {slices.Repeat([]api.Span{exact(1000)}, 8), 5000, 3}, {slices.Repeat([]api.Span{exact(625)}, 8), 5000, 0}, {slices.Repeat([]api.Span{span(624, 5000)}, 8), 5000, -1},
	} {
		if spare, e := ropes.Spare(x.points, x.load); spare != x.want || e != api.OK {
			t.Errorf("%d: Spare = %d, %d, want %d", i, spare, e, x.want)
		}
	}
}

// TestP9_6_Choose: the examples, the first one of several slices, and none.
func TestP9_6_Choose(t *testing.T) {
	a := exampleA()
	strong := slices.Repeat([]api.Span{exact(5000)}, 8)
	mixed := []api.Span{exact(1), exact(5), exact(9), exact(5), exact(9)}
	for i, x := range []struct {
		points      []api.Span
		load, spare int
		want        []int
		e           api.Errno
	}{
		{a, 8, 0, []int{0}, api.OK}, {a, 8, 1, []int{0, 1, 2}, api.OK}, {a, 8, 2, nil, api.ErrNone}, {a, 12, 0, []int{0, 1}, api.OK}, {a, 13, 0, nil, api.ErrNone}, {a, 4, 2, []int{0, 1, 2}, api.OK}, {a, 4, 1, []int{0, 1}, api.OK}, {a, 4, 3, nil, api.ErrNone},
		{nil, 1, 0, nil, api.ErrNone}, {nil, 1, 8, nil, api.ErrNone}, {[]api.Span{exact(1)}, 1, 0, []int{0}, api.OK}, {[]api.Span{exact(1)}, 1, 1, nil, api.ErrNone},
		{strong, 5000, 0, []int{0}, api.OK}, {strong, 5000, 7, []int{0, 1, 2, 3, 4, 5, 6, 7}, api.OK}, {strong, 5000, 8, nil, api.ErrNone}, {strong, 5000, 3, []int{0, 1, 2, 3}, api.OK},
		{mixed, 9, 0, []int{2}, api.OK}, {mixed, 9, 1, []int{2, 4}, api.OK}, {mixed, 10, 0, []int{1, 2}, api.OK}, {mixed, 5, 0, []int{1}, api.OK}, {mixed, 5, 1, []int{1, 2}, api.OK}, {mixed, 18, 0, []int{2, 4}, api.OK}, {mixed, 10, 1, []int{1, 2, 3}, api.OK}, {mixed, 1, 1, []int{0, 1}, api.OK},
		// the upper ends do not count
		{[]api.Span{span(1, 9), span(9, 9)}, 9, 0, []int{1}, api.OK},
	} {
		l, e := ropes.Choose(x.points, x.load, x.spare)
		if !slices.Equal(l, x.want) || e != x.e {
			t.Errorf("%d: Choose = %v, %d, want %v", i, l, e, x.want)
		}
	}
}

// TestP9_8_Teams: the example.
func TestP9_8_Teams(t *testing.T) {
	o := exampleO()
	guides, tied, e := ropes.Teams(o)
	if e != api.OK || broken(o, guides, tied) != "" {
		t.Errorf("Teams = %v, %v, %d: %s", guides, tied, e, broken(o, guides, tied))
	}
	if broken(o, []int{0, 0, 2}, []int{0, -1, 1}) != "" {
		t.Error("the teams of the chapter do not keep all rules")
	}
}

// team is an outing, and how many guides it takes; -1 if there are no teams.
type team struct {
	o    api.Outing
	want int
}

// rules are outings in which one rule decides.
func rules() []team {
	change := func(change func(o *api.Outing)) api.Outing {
		o := exampleO()
		change(&o)
		return o
	}
	l := []team{
		{exampleO(), 2},
		// nobody, or nobody who is led
		{guided(nil, nil), 0}, {guided([]int{20}, nil), 0}, {guided([]int{20, 20}, nil, 1), 0}, {guided(nil, []int{1}, 1), -1}, {guided([]int{1}, []int{1}), -1}, {guided([]int{1}, []int{1}, 1), 1},
		// points
		{guided([]int{4}, []int{3, 2}, 9), -1}, {guided([]int{5}, []int{3, 2}, 9), 1}, {guided([]int{4, 1}, []int{3, 2}, 9, 9), -1}, {guided([]int{4, 2}, []int{3, 2}, 9, 9), 2}, {guided([]int{0}, []int{1}, 9), -1}, {guided([]int{0, 1}, []int{1}, 9), 1},
		{guided([]int{20, 20, 20, 20}, []int{20, 20, 20, 20}, 9, 9, 9, 9), 4}, {guided([]int{20, 20, 20, 20}, []int{20, 20, 20, 20, 1}, 9, 9, 9, 9, 9, 9), -1}, {guided([]int{20, 19, 20, 20}, []int{20, 20, 20, 20}, 9, 9, 9, 9), -1}, {guided([]int{1, 2, 3, 6}, []int{1, 1, 1, 1, 1, 1}, 9, 9, 9, 9), 1},
		{guided([]int{5, 5}, []int{4, 3, 2, 1}, 9, 9), 2}, {guided([]int{5, 5, 5}, []int{4, 4, 2, 1, 1, 1}, 9, 9, 9), 3}, {guided([]int{7, 7, 7}, []int{4, 4, 2, 2, 1, 1}, 9, 9, 9), 2},
		// ropes
		{guided([]int{9, 9}, []int{1, 1, 1}, 2), -1}, {guided([]int{9, 9}, []int{1, 1, 1}, 3), 1}, {guided([]int{9, 9}, []int{1, 1, 1}, 2, 1), 2}, {guided([]int{9, 9}, []int{1, 1, 1}, 1, 2), 2}, {guided([]int{9, 9}, []int{1, 1, 1}, 1, 1), -1}, {guided([]int{9, 9, 9}, []int{1, 1, 1}, 1, 1, 1), 3}, {guided([]int{9, 9, 9}, []int{1, 1, 1}, 1, 1), -1},
		{guided([]int{1, 9}, []int{1, 1, 1}, 1, 2), 2}, {guided([]int{1, 9}, []int{1, 1, 1}, 2, 1), 2}, {guided([]int{4, 9}, []int{5, 4}, 1), -1}, {guided([]int{4, 9}, []int{5, 4}, 2), 1}, {guided([]int{4, 9}, []int{5, 4}, 1, 1), 2}, {guided([]int{4, 4}, []int{5}, 1, 1), -1},
		{guided([]int{20, 20}, []int{1, 1, 1, 1, 1, 1}, 1, 1, 1, 1, 1, 5), 2}, {guided([]int{20, 20}, []int{1, 1, 1, 1, 1, 1}, 1, 1, 1, 1, 1, 4), -1}, {guided([]int{20, 20}, []int{1, 1, 1, 1, 1, 1}, 3, 3, 1, 1, 1, 1), 2},
		// licences
		{change(func(o *api.Outing) { o.Grade = 4 }), -1}, {change(func(o *api.Outing) { o.Guides[0].Grade = 3 }), 2}, {change(func(o *api.Outing) { o.Guides[0].Grade = 2 }), -1}, {change(func(o *api.Outing) { o.Guides[2].Grade = 2 }), -1}, {change(func(o *api.Outing) { o.Guides[0].Until = 400 }), 2}, {change(func(o *api.Outing) { o.Guides[0].Until = 399 }), -1}, {change(func(o *api.Outing) { o.Guides[2].Until = 399 }), -1}, {change(func(o *api.Outing) { o.Guides[1].Until = 400 }), 1},
		{change(func(o *api.Outing) { o.Day = 401 }), -1}, {change(func(o *api.Outing) { o.Clients = []int{3, 3} }), 1}, {change(func(o *api.Outing) { o.Clients = []int{3, 4} }), 2},
		// ropes that surely are fit on the day, for three clients and 30 metres
		{withRope(30, exampleM(), exampleR()), 1}, {withRope(30, withBears(exampleM(), 5), exampleR()), 1}, {withRope(30, withBears(exampleM(), 4), exampleR()), -1}, {withRope(30, exampleM(), api.Rope{Made: 400, First: -1, Length: 30}), 1}, {withRope(30, exampleM(), api.Rope{Made: 400, First: 500, Length: 30}), 1}, {withRope(30, exampleM(), api.Rope{Made: 400, First: -1, Length: 29}), -1},
		{withRope(30, api.Model{Shelf: 300, Use: 1}, api.Rope{Made: 100, First: -1, Length: 30}), 1}, {withRope(30, api.Model{Shelf: 299, Use: 1}, api.Rope{Made: 100, First: -1, Length: 30}), -1}, {withRope(30, api.Model{Shelf: 9999, Use: 300}, api.Rope{Made: 10, First: 100, Length: 30}), 1}, {withRope(30, api.Model{Shelf: 9999, Use: 299}, api.Rope{Made: 10, First: 100, Length: 30}), -1},
		// a fall after the day does not count
		{withRope(30, withBears(exampleM(), 0), withFalls(exampleR(), fall(401, exact(1000), exact(1)))), 1}, {withRope(30, withBears(exampleM(), 0), withFalls(exampleR(), fall(400, exact(1000), exact(1)))), -1},
	}
	spaced := guided([]int{9, 9}, []int{1, 1, 1}, 100, 50)
	for _, x := range []struct{ spacing, want int }{{33, 1}, {34, 2}, {50, 2}, {51, -1}, {100, -1}} {
		spaced.Spacing = x.spacing
		l = append(l, team{spaced, x.want})
	}
	return l
}

// withRope is an outing of one guide with three clients and one rope, so many metres of
// which are needed.
func withRope(metres int, m api.Model, r api.Rope) api.Outing {
	o := exampleO()
	o.Guides, o.Clients, o.Spacing = []api.Guide{{Grade: 3, Until: 400, Points: 3}}, []int{1, 1, 1}, metres/3
	o.Model, o.Ropes = m, []api.Rope{r}
	return o
}

// TestP9_9_Guides: the example, and each rule that decides whether there are teams.
func TestP9_9_Guides(t *testing.T) {
	for i, x := range rules() {
		want, count := api.OK, x.want
		if x.want < 0 {
			want, count = api.ErrNone, 0
		}
		if n, e := ropes.Guides(x.o); n != count || e != want {
			t.Errorf("%d: Guides = %d, %d, want %d", i, n, e, x.want)
		}
		guides, tied, e := ropes.Teams(x.o)
		if e != want || e == api.OK && broken(x.o, guides, tied) != "" || e != api.OK && len(guides)+len(tied) > 0 {
			t.Errorf("%d: Teams = %v, %v, %d: %s", i, guides, tied, e, broken(x.o, guides, tied))
		}
		if e := ropes.Check(x.o); e != api.OK {
			t.Errorf("%d: Check: %d", i, e)
		}
	}
}

// TestP9_10_Level: the example, limits that are just met, and MaxYears.
func TestP9_10_Level(t *testing.T) {
	p := exampleP()
	two := func(distance int, a, b api.Span) []api.Post {
		return []api.Post{{At: 100, Sink: a}, {At: 100 + distance, Sink: b}}
	}
	for i, x := range []struct {
		posts []api.Post
		limit int
		want  int
	}{
		{p, 10, 2}, {p, 12, 3}, {p, 11, 2}, {p, 0, 0}, {p, 3, 0}, {p, 4, 1}, {p, 400, 100}, {p, 399, 99}, {p, api.MaxTilt, 100},
		{nil, 0, 100}, {[]api.Post{post(5, 0, 100)}, 0, 100}, {two(1, exact(7), exact(7)), 0, 100}, {two(100000-100, exact(7), exact(8)), 0, 0}, {two(1, span(6, 7), span(6, 7)), 0, 0},
		// either post can sink more
		{two(1000, span(0, 1), span(5, 6)), 18, 3}, {two(1000, span(5, 6), span(0, 1)), 18, 3}, {two(1000, span(0, 9), span(5, 5)), 50, 10}, {two(1000, span(0, 4), span(3, 3)), 29, 9}, {two(1000, span(3, 3), span(0, 4)), 30, 10},
		{two(1, exact(0), exact(1)), 1000, 1}, {two(1, exact(0), exact(2)), 1000, 0}, {two(100, exact(0), exact(1)), 1000, 100}, {two(99, exact(0), exact(1)), 1000, 99}, {two(10000, exact(0), exact(100)), 1000, 100},
		// not rounded: 1.001 thousandths are more than 1
		{two(999, exact(0), exact(1)), 1, 0}, {two(1000, exact(0), exact(1)), 1, 1}, {two(1999, exact(0), exact(1)), 1, 1}, {two(2000, exact(0), exact(1)), 1, 2},
		// posts that are not next to each other
		{[]api.Post{post(0, 0, 0), post(1000, 1, 1), post(1001, 1, 2)}, 100, 0}, {[]api.Post{post(0, 0, 0), post(1000, 5, 5), post(2000, 10, 10)}, 100, 20}, {[]api.Post{post(0, 0, 0), post(10, 0, 4), post(20, 4, 4)}, 600, 1}, {[]api.Post{post(0, 0, 4), post(1000, 0, 9), post(1100, 3, 4)}, 60, 1},
		{[]api.Post{post(0, 0, 0), post(1000, 0, 9), post(1001, 9, 9)}, 500, 0}, {[]api.Post{post(0, 0, 0), post(9, 0, 0), post(10, 10, 10)}, 1000, 0}, {[]api.Post{post(0, 9, 9), post(1, 9, 9), post(10, 0, 0)}, 1000, 1},
	} {
		if years, e := ropes.Level(x.posts, x.limit); years != x.want || e != api.OK {
			t.Errorf("%d: Level = %d, %d, want %d", i, years, e, x.want)
		}
	}
}

// TestP9_11_Prop: the examples, no years, and the first one of several slices.
func TestP9_11_Prop(t *testing.T) {
	p := exampleP()
	apart := []api.Post{post(0, 0, 0), post(10, 50, 50), post(20, 0, 0), post(30, 50, 50)}
	same := []api.Post{post(0, 0, 1), post(1, 0, 1), post(2, 0, 1), post(3, 0, 1)}
	full := []api.Post{post(0, 0, 0), post(1, 9, 9), post(2, 18, 18), post(3, 27, 27), post(4, 36, 36), post(5, 45, 45), post(6, 54, 54), post(7, 63, 63)}
	for i, x := range []struct {
		posts        []api.Post
		limit, years int
		want         []int
	}{
		{p, 10, 2, nil}, {p, 10, 5, []int{1}}, {p, 10, 20, []int{0, 1}}, {p, 10, 0, nil}, {p, 0, 0, nil}, {p, 0, 1, []int{0, 1}}, {p, 10, 3, []int{1}}, {p, 10, 6, []int{1}}, {p, 10, 7, []int{2}}, {p, 10, 13, []int{2}}, {p, 10, 14, []int{0, 1}}, {p, 400, 100, nil}, {p, 399, 100, []int{1}},
		{nil, 0, 100, nil}, {[]api.Post{post(5, 0, 100)}, 0, 100, nil}, {apart, 1000, 1, []int{0, 2}}, {apart, 0, 1, []int{0, 2}}, {same, 0, 1, []int{0, 1, 2}}, {same, 1000, 1, nil}, {same, 999, 1, []int{0, 2}}, {same, 500, 1, []int{0, 2}}, {same, 499, 1, []int{1, 2}}, {same, 999, 2, []int{1, 2}}, {same, 499, 2, []int{0, 1, 2}},
		{full, 1000, 1, []int{0, 1, 2, 3, 4, 5, 6}}, {full, 1000, 0, nil},
	} {
		if l, e := ropes.Prop(x.posts, x.limit, x.years); !slices.Equal(l, x.want) || e != api.OK {
			t.Errorf("%d: Prop = %v, %d, want %v", i, l, e, x.want)
		}
	}
}
