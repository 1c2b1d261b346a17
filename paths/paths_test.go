package paths_test

import (
	"math/rand"
	"slices"
	"testing"

	"bivouac/api"
	"bivouac/paths"
)

// TestP1_2_Walk: the time is rounded up, and each end has its own factors.
func TestP1_2_Walk(t *testing.T) {
	for i, x := range []struct {
		path api.Path
		p    api.Party
		want api.Span
	}{
		{api.Path{To: 1, Grade: 3, Time: span(60, 90), Snow: span(4, 10)}, exampleParty(), span(72, 135)},
		{easy(0, 1, 100, 120), exampleParty(), span(100, 120)},
		{easy(0, 1, 1, 1), api.Party{Grade: 1, Pace: span(50, 50)}, span(1, 1)},
		{easy(0, 1, 3, 3), api.Party{Grade: 1, Pace: span(50, 300)}, span(2, 9)},
		{easy(0, 1, 10, 10), api.Party{Grade: 1, Pace: span(100, 101), Load: 1}, span(11, 11)},
		{api.Path{To: 1, Grade: 6, Time: span(600, 600), Snow: span(30, 30)}, api.Party{Grade: 6, Pace: span(300, 300), Load: 40}, span(5220, 5220)},
		{api.Path{To: 1, Grade: 1, Time: span(100, 100), Snow: span(1, 2)}, api.Party{Grade: 6, Pace: span(90, 110), Load: 15}, span(108, 138)},
	} {
		n := api.Net{Places: 2, Paths: []api.Path{x.path}}
		if s, e := paths.Walk(n, x.p, 0); s != x.want || e != api.OK {
			t.Errorf("%d: Walk = %v, %d, want %v", i, s, e, x.want)
		}
	}
	if s, e := paths.Walk(exampleNet(), exampleParty(), 1); s != span(72, 135) || e != api.OK {
		t.Errorf("Walk of the example = %v, %d", s, e)
	}
	p := exampleParty()
	p.Grade = 2
	if s, e := paths.Walk(exampleNet(), p, 1); s != span(0, 0) || e != api.ErrNone {
		t.Errorf("Walk of a path that is too hard = %v, %d", s, e)
	}
	if s, e := paths.Walk(exampleNet(), p, 0); s != span(100, 120) || e != api.OK {
		t.Errorf("Walk of a path that just can be walked = %v, %d", s, e)
	}
	if _, e := paths.Walk(api.Net{Places: 1}, p, 0); e != api.ErrArg {
		t.Errorf("Walk in a net without paths: %d", e)
	}
}

// TestP1_2_formula compares with the formula of the chapter.
func TestP1_2_formula(t *testing.T) {
	r := rand.New(rand.NewSource(2))
	for range 500 {
		path, p := randomPath(r, 2), randomParty(r)
		p.Grade, path.Snow = 3, randomSpan(r, 0, api.MaxSnow)
		n := api.Net{Places: 2, Paths: []api.Path{path}}
		if s, e := paths.Walk(n, p, 0); s != span(fastest(path, p), slowest(path, p)) || e != api.OK {
			t.Errorf("Walk of %v for %v = %v, %d", path, p, s, e)
		}
	}
}

// TestP1_3_Arrive: the examples, and the ends of the day.
func TestP1_3_Arrive(t *testing.T) {
	line := api.Net{Places: 3, Paths: []api.Path{easy(0, 1, 80, 100), easy(1, 2, 80, 100)}}
	late := api.Net{Places: 2, Paths: []api.Path{opens(easy(0, 1, 5, 10), span(0, 99), span(2880, 2880))}}
	spans := api.Net{Places: 2, Paths: []api.Path{opens(easy(0, 1, 5, 10), span(200, 300), span(100, 110), span(105, 120))}}
	closed := api.Net{Places: 2, Paths: []api.Path{opens(easy(0, 1, 5, 10))}}
	for i, x := range []struct {
		n           api.Net
		from, start int
		sure, best  []int
	}{
		{exampleNet(), 0, 300, []int{300, 420, 555, 615}, []int{300, 400, 472, 532}},
		{exampleNet(), 2, 0, []int{700, 820, 0, 460}, []int{660, 760, 0, 460}},
		{exampleNet(), 2, 700, []int{1000, 1120, 700, 760}, []int{960, 1060, 700, 760}},
		{exampleNet(), 2, 701, []int{-1, -1, 701, -1}, []int{-1, -1, 701, -1}},
		// arrivals at MaxMinute, and after it
		{line, 0, 2680, []int{2680, 2780, 2880}, []int{2680, 2760, 2840}},
		{line, 0, 2681, []int{2681, 2781, -1}, []int{2681, 2761, 2841}},
		{line, 0, 2720, []int{2720, 2820, -1}, []int{2720, 2800, 2880}},
		{line, 0, 2721, []int{2721, 2821, -1}, []int{2721, 2801, -1}},
		{line, 0, 2780, []int{2780, 2880, -1}, []int{2780, 2860, -1}},
		{line, 0, api.MaxMinute, []int{2880, -1, -1}, []int{2880, -1, -1}},
		{late, 0, 99, []int{99, 109}, []int{99, 104}},
		{late, 0, 100, []int{100, -1}, []int{100, -1}},
		// spans that overlap, and that are not in order
		{spans, 0, 0, []int{0, 110}, []int{0, 105}},
		{spans, 0, 110, []int{110, 120}, []int{110, 115}},
		{spans, 0, 120, []int{120, 130}, []int{120, 125}},
		{spans, 0, 121, []int{121, 210}, []int{121, 205}},
		{spans, 0, 300, []int{300, 310}, []int{300, 305}},
		{spans, 0, 301, []int{301, -1}, []int{301, -1}},
		{closed, 0, 0, []int{0, -1}, []int{0, -1}},
		{closed, 1, 7, []int{-1, 7}, []int{-1, 7}},
		{api.Net{Places: 1}, 0, 5, []int{5}, []int{5}},
	} {
		sure, best, e := paths.Arrive(x.n, exampleParty(), x.from, x.start)
		if e != api.OK || !slices.Equal(sure, x.sure) || !slices.Equal(best, x.best) {
			t.Errorf("%d: Arrive = %v, %v, %d", i, sure, best, e)
		}
	}
	p := exampleParty()
	p.Grade = 2
	if sure, _, e := paths.Arrive(exampleNet(), p, 0, 300); e != api.OK || !slices.Equal(sure, []int{300, 420, -1, 700}) {
		t.Errorf("Arrive without a path that is too hard = %v, %d", sure, e)
	}
}

// TestP1_3_longest: the longest of all routes that come to no place again.
func TestP1_3_longest(t *testing.T) {
	n := api.Net{Places: api.MaxPlaces}
	want := []int{0}
	for i := range api.MaxPlaces - 1 {
		n.Paths = append(n.Paths, easy(api.MaxPlaces-2-i, api.MaxPlaces-1-i, 10, 10))
		want = append(want, 10*(i+1))
	}
	sure, best, e := paths.Arrive(n, exampleParty(), 0, 0)
	if e != api.OK || !slices.Equal(sure, want) || !slices.Equal(best, want) {
		t.Errorf("Arrive = %v, %v, %d", sure, best, e)
	}
	route, arrival, e := paths.Route(n, exampleParty(), 0, 0, api.MaxPlaces-1)
	if e != api.OK || arrival != 110 || !slices.Equal(route, []int{10, 9, 8, 7, 6, 5, 4, 3, 2, 1, 0}) {
		t.Errorf("Route = %v, %d, %d", route, arrival, e)
	}
}

// TestP1_4_Route: the examples, and routes with equal arrivals.
func TestP1_4_Route(t *testing.T) {
	// From 0 to 3: by 1 and by 2 at the same minute, and straight a minute later.
	even := api.Net{Places: 4, Paths: []api.Path{
		easy(0, 2, 40, 50), easy(0, 1, 50, 50), easy(1, 3, 50, 50), easy(2, 3, 10, 50), easy(0, 3, 101, 101)}}
	straight := copyNet(even)
	straight.Paths[4].Time = span(1, 100)
	twice := api.Net{Places: 2, Paths: []api.Path{easy(0, 1, 9, 11), easy(0, 1, 1, 10), easy(0, 1, 10, 10)}}
	// The party has to wait at 2 anyway, so it may get there late: on one path, or on the lower ones.
	wait := api.Net{Places: 4, Paths: []api.Path{
		easy(0, 2, 100, 100), easy(0, 1, 10, 10), easy(1, 2, 10, 10), opens(easy(2, 3, 10, 10), span(100, 200))}}
	low := api.Net{Places: 4, Paths: []api.Path{
		easy(0, 1, 50, 50), easy(0, 1, 10, 10), easy(1, 2, 30, 30), easy(1, 2, 20, 20), opens(easy(2, 3, 10, 10), span(80, 80))}}
	narrow := copyNet(low)
	narrow.Paths[4].Opens = []api.Span{span(79, 79)}
	// The detour over 2 has lower paths, but one more.
	detour := api.Net{Places: 4, Paths: []api.Path{
		easy(0, 1, 10, 10), easy(1, 2, 10, 10), opens(easy(1, 3, 10, 10), span(100, 100)), opens(easy(2, 3, 10, 10), span(100, 100))}}
	last := api.Net{Places: 2, Paths: []api.Path{easy(0, 1, 1, 100)}}
	for i, x := range []struct {
		n               api.Net
		from, start, to int
		route           []int
		arrival         int
		e               api.Errno
	}{
		{exampleNet(), 0, 300, 3, []int{0, 1, 2}, 615, api.OK},
		{exampleNet(), 0, 400, 3, []int{0, 1, 2}, 715, api.OK},
		{exampleNet(), 0, 460, 3, []int{3}, 860, api.OK},
		{exampleNet(), 0, 300, 0, nil, 300, api.OK},
		{exampleNet(), 0, api.MaxMinute, 0, nil, api.MaxMinute, api.OK},
		{exampleNet(), 2, 701, 3, nil, 0, api.ErrNone},
		{api.Net{Places: 2}, 0, 0, 1, nil, 0, api.ErrNone},
		{even, 0, 0, 3, []int{0, 3}, 100, api.OK},
		{straight, 0, 0, 3, []int{4}, 100, api.OK},
		{twice, 0, 0, 1, []int{1}, 10, api.OK},
		{wait, 0, 0, 3, []int{0, 3}, 110, api.OK},
		{wait, 0, 0, 2, []int{1, 2}, 20, api.OK},
		{low, 0, 0, 3, []int{0, 2, 4}, 90, api.OK},
		{narrow, 0, 0, 3, []int{0, 3, 4}, 89, api.OK},
		{detour, 0, 0, 3, []int{0, 2}, 110, api.OK},
		{last, 0, 2780, 1, []int{0}, 2880, api.OK},
		{last, 0, 2781, 1, nil, 0, api.ErrNone},
	} {
		route, arrival, e := paths.Route(x.n, exampleParty(), x.from, x.start, x.to)
		if e != x.e || arrival != x.arrival || !slices.Equal(route, x.route) {
			t.Errorf("%d: Route = %v, %d, %d", i, route, arrival, e)
		}
	}
}

// TestP1_5_Latest: the examples, and Latest at 0 and at MaxMinute.
func TestP1_5_Latest(t *testing.T) {
	hour := api.Net{Places: 2, Paths: []api.Path{easy(0, 1, 10, 60)}}
	gate := api.Net{Places: 2, Paths: []api.Path{opens(easy(0, 1, 10, 60), span(100, 100), span(300, 310))}}
	for i, x := range []struct {
		n                  api.Net
		from, to, deadline int
		want               int
		e                  api.Errno
	}{
		{exampleNet(), 0, 3, 900, 500, api.OK},
		{exampleNet(), 0, 3, 299, 0, api.ErrNone},
		{hour, 0, 1, 59, 0, api.ErrNone},
		{hour, 0, 1, 60, 0, api.OK},
		{hour, 0, 1, 61, 1, api.OK},
		{hour, 0, 1, api.MaxMinute, 2820, api.OK},
		{hour, 0, 0, api.MaxMinute, api.MaxMinute, api.OK},
		{hour, 0, 0, 0, 0, api.OK},
		{hour, 1, 0, api.MaxMinute, 0, api.ErrNone},
		{gate, 0, 1, 159, 0, api.ErrNone},
		{gate, 0, 1, 160, 100, api.OK},
		{gate, 0, 1, 359, 100, api.OK},
		{gate, 0, 1, 360, 300, api.OK},
		{gate, 0, 1, 365, 305, api.OK},
		{gate, 0, 1, api.MaxMinute, 310, api.OK},
	} {
		if latest, e := paths.Latest(x.n, exampleParty(), x.from, x.to, x.deadline); latest != x.want || e != x.e {
			t.Errorf("%d: Latest = %d, %d", i, latest, e)
		}
	}
}

// TestP1_6_Vital: the examples, paths that stand in for each other, and the
// place itself.
func TestP1_6_Vital(t *testing.T) {
	bridge := api.Net{Places: 3, Paths: []api.Path{easy(1, 2, 10, 10), easy(0, 1, 10, 20), easy(0, 1, 10, 30), easy(2, 0, 5, 5)}}
	for i, x := range []struct {
		n                         api.Net
		from, start, to, deadline int
		want                      []int
		e                         api.Errno
	}{
		{exampleNet(), 0, 300, 3, 650, []int{0, 1, 2}, api.OK},
		{exampleNet(), 0, 300, 3, 615, []int{0, 1, 2}, api.OK},
		{exampleNet(), 0, 300, 3, 699, []int{0, 1, 2}, api.OK},
		{exampleNet(), 0, 300, 3, 700, nil, api.OK},
		{exampleNet(), 0, 300, 3, 614, nil, api.ErrNone},
		{exampleNet(), 0, 300, 3, 600, nil, api.ErrNone},
		{exampleNet(), 0, 300, 3, 299, nil, api.ErrNone},
		{exampleNet(), 0, 300, 0, 300, nil, api.OK},
		{exampleNet(), 0, 300, 0, 299, nil, api.ErrNone},
		{exampleNet(), 0, 300, 2, 1000, []int{0, 1}, api.OK},
		{bridge, 0, 0, 2, 30, []int{0, 1}, api.OK},
		{bridge, 0, 0, 2, 39, []int{0, 1}, api.OK},
		{bridge, 0, 0, 2, 40, []int{0}, api.OK},
		{bridge, 0, 0, 2, 29, nil, api.ErrNone},
		{bridge, 0, 2880, 2, 2880, nil, api.ErrNone},
	} {
		if vital, e := paths.Vital(x.n, exampleParty(), x.from, x.start, x.to, x.deadline); e != x.e || !slices.Equal(vital, x.want) {
			t.Errorf("%d: Vital = %v, %d", i, vital, e)
		}
	}
}

// TestP1_7_Within: the examples, and deadlines at and around arrivals.
func TestP1_7_Within(t *testing.T) {
	for i, x := range []struct {
		start, deadline int
		sure, may       []int
	}{
		{300, 600, []int{0, 1, 2}, []int{0, 1, 2, 3}},
		{300, 299, nil, nil},
		{300, 300, []int{0}, []int{0}},
		{300, 399, []int{0}, []int{0}},
		{300, 400, []int{0}, []int{0, 1}},
		{300, 419, []int{0}, []int{0, 1}},
		{300, 420, []int{0, 1}, []int{0, 1}},
		{300, 615, []int{0, 1, 2, 3}, []int{0, 1, 2, 3}},
		{2700, api.MaxMinute, []int{0, 1}, []int{0, 1, 2}},
		{2881 - 100, api.MaxMinute, []int{0}, []int{0}},
	} {
		sure, may, e := paths.Within(exampleNet(), exampleParty(), 0, x.start, x.deadline)
		if e != api.OK || !slices.Equal(sure, x.sure) || !slices.Equal(may, x.may) {
			t.Errorf("%d: Within = %v, %v, %d", i, sure, may, e)
		}
	}
}

// TestP1_8_Turn: the examples, -1, an empty route, and routes that cannot be
// walked to their ends.
func TestP1_8_Turn(t *testing.T) {
	early := exampleNet()
	early.Paths[2].Opens = []api.Span{span(400, 554)}
	closed := exampleNet()
	closed.Paths[0].Opens = nil
	// From 1 the way home over 2 is shorter than the straight one, but opens late.
	gap := api.Net{Places: 3, Paths: []api.Path{easy(0, 1, 10, 10), easy(1, 2, 10, 10), easy(2, 0, 10, 10), easy(1, 0, 200, 200)}}
	gap.Paths[1].Opens = []api.Span{span(300, 320)}
	ring := api.Net{Places: 2, Paths: []api.Path{easy(0, 1, 10, 10), easy(1, 0, 10, 10)}}
	long := slices.Repeat([]int{0, 1}, 15)
	for i, x := range []struct {
		n                           api.Net
		route                       []int
		from, start, home, deadline int
		want                        int
	}{
		{exampleNet(), []int{0, 1, 2}, 0, 300, 0, 1000, 3},
		{exampleNet(), []int{0, 1, 2}, 0, 300, 0, 855, 3},
		{exampleNet(), []int{0, 1, 2}, 0, 300, 0, 854, 0},
		{exampleNet(), []int{0, 1, 2}, 0, 300, 0, 800, 0},
		{exampleNet(), []int{0, 1, 2}, 0, 300, 0, 300, 0},
		{exampleNet(), []int{0, 1, 2}, 0, 300, 0, 299, -1},
		{exampleNet(), []int{0, 1, 2}, 0, 300, 3, 614, -1},
		{exampleNet(), []int{0, 1, 2}, 0, 300, 3, 615, 3},
		{exampleNet(), nil, 0, 300, 0, 300, 0},
		{exampleNet(), []int{}, 0, 300, 0, 299, -1},
		{exampleNet(), nil, 2, 701, 3, 2880, -1},
		// not walked to the end, or not by MaxMinute
		{early, []int{0, 1, 2}, 0, 300, 1, 2000, 1},
		{early, []int{0, 1, 2}, 0, 300, 2, 2000, 2},
		{closed, []int{0, 1}, 0, 300, 0, 2000, 0},
		{ring, []int{0, 1, 0}, 0, 2860, 0, 2880, 2},
		{ring, []int{0, 1, 0}, 0, 2861, 1, 2880, 1},
		{ring, []int{0, 1, 0}, 0, 2850, 1, 2880, 3},
		{ring, []int{0}, 0, 2880, 0, 2880, 0},
		{gap, []int{0, 1}, 0, 300, 0, 500, 2},
		{gap, []int{0, 1}, 0, 300, 0, 330, 2},
		{gap, []int{0, 1}, 0, 300, 0, 329, 0},
		{gap, []int{0, 1}, 0, 200, 0, 409, 2},
		{gap, []int{3}, 1, 300, 1, 2880, 1},
		{gap, []int{3}, 1, 300, 1, 509, 0},
		// as many paths as a route can have
		{ring, long, 0, 0, 0, 300, 30},
		{ring, long, 0, 0, 0, 299, 28},
	} {
		k, e := paths.Turn(x.n, exampleParty(), x.route, x.from, x.start, x.home, x.deadline)
		if k != x.want || e != api.OK {
			t.Errorf("%d: Turn = %d, %d, want %d", i, k, e, x.want)
		}
	}
}

// TestP1_8_ErrRoute: what no route of the party is, whatever the minutes are.
func TestP1_8_ErrRoute(t *testing.T) {
	n := exampleNet()
	n.Paths = append(n.Paths, easy(1, 0, 10, 10))
	n.Paths[3].Grade = 4
	for i, route := range [][]int{
		{1}, {0, 2}, {0, 1, 2, 2}, {6}, {-1}, {0, 6}, {0, -1}, {3}, {0, 1, 2, 4, 3}, slices.Repeat([]int{0, 5}, 16), append(slices.Repeat([]int{0, 5}, 15), 0),
	} {
		if k, e := paths.Turn(n, exampleParty(), route, 0, 300, 0, 1000); k != 0 || e != api.ErrRoute {
			t.Errorf("%d: Turn = %d, %d", i, k, e)
		}
		// ErrRoute comes before the deadline counts, and also behind where the route can be walked.
		if k, e := paths.Turn(n, exampleParty(), route, 0, 2880, 0, 0); k != 0 || e != api.ErrRoute {
			t.Errorf("%d: Turn = %d, %d", i, k, e)
		}
		if _, e := paths.Turn(n, exampleParty(), route, 0, 300, 4, 1000); e != api.ErrArg {
			t.Errorf("%d: Turn with a home that is no place: %d", i, e)
		}
	}
}
