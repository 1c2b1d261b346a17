package missing_test

import (
	"slices"
	"testing"

	"bivouac/api"
	"bivouac/missing"
)

// ends are the places and paths that Where returns, or nothing for ErrNone.
type ends struct{ places, paths []int }

// checkEnds compares Where with a result that was found by hand, and both ways to go
// through all that can be with it.
func checkEnds(t *testing.T, what string, n api.Net, x api.Missed, want ends) {
	t.Helper()
	places, paths := where(t, n, x)
	if !slices.Equal(places, want.places) || !slices.Equal(paths, want.paths) {
		t.Errorf("%s: Where = %v, %v, want %v", what, places, paths, want)
	}
	checkWhere(t, n, x, whereOf(n, x))
}

// TestP8_2_examples: the examples of the chapter.
func TestP8_2_examples(t *testing.T) {
	n := exampleN()
	checkEnds(t, "X", n, exampleX(), ends{[]int{1, 2, 3}, []int{1, 2, 4}})
	checkEnds(t, "Y", n, exampleY(), ends{[]int{3}, []int{4}})
	checkEnds(t, "Z", n, exampleZ(), ends{})
	if places, paths, e := missing.Where(n, exampleZ()); len(places)+len(paths) > 0 || e != api.ErrNone {
		t.Errorf("Where of Z = %v, %v, %d", places, paths, e)
	}
}

// TestP8_3_examples: the traces of the chapter.
func TestP8_3_examples(t *testing.T) {
	n, y := exampleN(), exampleY()
	told := []api.Pass{pass(0, 300, 300, 0), pass(1, 420, 420, 1), pass(2, 492, 492, 2), pass(3, 552, 600, -1)}
	if !isTrace(n, y, told) || !isPossible(y, told) {
		t.Error("the trace of the chapter is none for this test")
	}
	checkTrace(t, n, y, 3, -1, true)
	checkTrace(t, n, y, -1, 4, true)
	for _, place := range []int{0, 1, 2} {
		checkTrace(t, n, y, place, -1, false)
	}
	for _, path := range []int{0, 1, 2, 3} {
		checkTrace(t, n, y, -1, path, false)
	}
}

// TestP8_4_examples: the conflicts of the chapter.
func TestP8_4_examples(t *testing.T) {
	if l, e := missing.Conflict(exampleN(), exampleZ()); !slices.Equal(l, []int{0, 3}) || e != api.OK {
		t.Errorf("Conflict of Z = %v, %d", l, e)
	}
	if l, e := missing.Conflict(exampleN(), exampleY()); len(l) > 0 || e != api.ErrNone {
		t.Errorf("Conflict of Y = %v, %d", l, e)
	}
}

// TestP8_5_examples: the ways of the chapter, from a place to itself, over several
// paths, and without a route.
func TestP8_5_examples(t *testing.T) {
	wide := net(12)
	for i := range 11 {
		wide.Paths = append(wide.Paths, easy(i, i+1, 1, 600))
	}
	slow := api.Party{Grade: 1, Pace: span(50, 300), Load: 40}
	closed := net(3, easy(0, 1, 3, 5), easy(1, 2, 1, 1), easy(0, 2, 1, 7))
	for i := range closed.Paths {
		closed.Paths[i].Opens = nil
	}
	steep := net(2, easy(0, 1, 9, 9), easy(0, 1, 2, 2))
	steep.Paths[1].Grade = 2
	for i, x := range []struct {
		n        api.Net
		p        api.Party
		from, to int
		want     int
		e        api.Errno
	}{
		{exampleN(), exampleP(), 0, 3, 315, api.OK}, {exampleN(), exampleP(), 1, 0, 435, api.OK}, {exampleN(), exampleP(), 0, 0, 0, api.OK}, {exampleN(), exampleP(), 2, 2, 0, api.OK},
		{exampleN(), api.Party{Grade: 2, Pace: span(100, 100)}, 0, 3, 400, api.OK}, {exampleN(), api.Party{Grade: 2, Pace: span(100, 100)}, 1, 3, 0, api.ErrNone}, {exampleN(), api.Party{Grade: 1, Pace: span(100, 100)}, 0, 0, 0, api.OK},
		{net(1), walker(), 0, 0, 0, api.OK}, {net(2), walker(), 0, 1, 0, api.ErrNone},
		{chain(), walker(), 0, 2, 21, api.OK}, {chain(), walker(), 2, 0, 0, api.ErrNone},
		{wide, walker(), 0, 11, 6600, api.OK}, {wide, slow, 0, 11, 27720, api.OK}, {wide, walker(), 5, 4, 0, api.ErrNone},
		{closed, walker(), 0, 2, 6, api.OK}, {steep, walker(), 0, 1, 9, api.OK},
	} {
		if way, e := missing.Way(x.n, x.p, x.from, x.to); way != x.want || e != x.e {
			t.Errorf("%d: Way from %d to %d = %d, %d, want %d, %d", i, x.from, x.to, way, e, x.want, x.e)
		}
	}
}

// TestP8_6_examples: the plan of the chapter.
func TestP8_6_examples(t *testing.T) {
	order, cost, e := missing.Plan(exampleN(), exampleP(), 0, exampleS())
	if !slices.Equal(order, []int{1, 2, 0}) || cost != 32250 || e != api.OK {
		t.Errorf("Plan = %v, %d, %d", order, cost, e)
	}
}

// TestP8_7_examples: the plans of the chapter.
func TestP8_7_examples(t *testing.T) {
	orders, cost, e := missing.Teams(exampleN(), exampleP(), []int{0, 3}, exampleS())
	if cost != 13500 || e != api.OK {
		t.Errorf("Teams = %v, %d, %d", orders, cost, e)
	}
	checkTeams(t, waysOf(exampleN(), exampleP()), []int{0, 3}, exampleS(), orders, cost)
}

// TestP8_8_examples: the weights of the chapter, at the minutes at which each spot is
// done, and just before.
func TestP8_8_examples(t *testing.T) {
	for minutes, want := range map[int]int{400: 80, 435: 100, 0: 0, 139: 0, 140: 30, 314: 30, 315: 50, 394: 50, 395: 80, 434: 80, 436: 100, api.MaxMinute: 100} {
		most, e := missing.Most(exampleN(), exampleP(), 0, exampleS(), minutes)
		if most != want || e != api.OK {
			t.Errorf("Most by %d = %d, %d, want %d", minutes, most, e, want)
		}
	}
}

// TestP8_2_stays: parties that cannot go anywhere, or have no time to.
func TestP8_2_stays(t *testing.T) {
	steep, closed := chain(), chain()
	steep.Paths[0].Grade = 2
	closed.Paths[0].Opens, closed.Paths[1].Opens = nil, nil
	late := lost(0, api.MaxMinute)
	late.Start = api.MaxMinute
	here := ends{places: []int{0}}
	checkEnds(t, "one place", net(1), lost(5, 9), here)
	checkEnds(t, "one place, Start equal to Now", net(1), lost(0, 0), here)
	checkEnds(t, "no paths", net(3), lost(600, 50), here)
	checkEnds(t, "a path that cannot be walked", steep, lost(5, 50), here)
	checkEnds(t, "paths that lead elsewhere", net(3, easy(1, 0, 1, 1), easy(2, 1, 1, 1)), lost(5, 50), here)
	checkEnds(t, "Start equal to Now", chain(), lost(5, 0), here)
	checkEnds(t, "Start and Now MaxMinute", chain(), late, here)
	// whether paths are open does not matter
	checkEnds(t, "paths that never open", closed, lost(0, 30), ends{[]int{0, 1, 2}, []int{0, 1}})
}

// TestP8_2_walks: the minutes around those of leaving and arriving, by path 0 of 10
// to 20 minutes and path 1 of one minute.
func TestP8_2_walks(t *testing.T) {
	for now, want := range map[int]ends{
		1: {[]int{0}, []int{0}}, 9: {[]int{0}, []int{0}},
		10: {[]int{0, 1}, []int{0}}, // just arrived at Now
		11: {[]int{0, 1, 2}, []int{0, 1}}, 30: {[]int{0, 1, 2}, []int{0, 1}},
	} {
		checkEnds(t, "no rest", chain(), lost(0, now), want)
	}
	// with a clue it is known that the party left at 0, and needed 20 minutes at most
	away := []api.Clue{unseen(1, 1)}
	for now, want := range map[int]ends{
		1: {nil, []int{0}}, 10: {[]int{1}, []int{0}}, 11: {[]int{1, 2}, []int{0, 1}}, 25: {[]int{1, 2}, []int{0, 1}},
	} {
		checkEnds(t, "left", chain(), lost(0, now, away...), want)
	}
	for minute, want := range map[int]ends{
		9: {}, 10: {[]int{1, 2}, []int{1}}, 20: {[]int{1, 2}, []int{1}}, 21: {[]int{1}, nil},
	} {
		// without rest it is at the place 1 after 20 minutes only if it stays there
		checkEnds(t, "arrived", chain(), lost(0, 40, seen(minute, 2)), want)
	}
	// a path of one minute: nobody arrives at the minute of leaving, nor is on it later
	checkEnds(t, "one minute", net(2, easy(0, 1, 1, 1)), lost(0, 1), ends{[]int{0, 1}, []int{0}})
	checkEnds(t, "seen at both ends", net(2, easy(0, 1, 1, 1)), lost(0, 3, seen(0, 1), seen(1, 2)), ends{[]int{1}, nil})
	checkEnds(t, "at both ends at once", net(2, easy(0, 1, 1, 1)), lost(0, 3, seen(0, 1), seen(0, 2)), ends{})
	checkEnds(t, "seen at the end too soon", net(2, easy(0, 1, 2, 2)), lost(0, 3, seen(0, 1), seen(1, 2)), ends{})
}

// TestP8_2_rests: without rest the party goes on at once; with it up to so many
// minutes, and at the last place for any time.
func TestP8_2_rests(t *testing.T) {
	quick := net(2, easy(0, 1, 1, 1))
	for rest := range 4 {
		for minute := range 8 {
			// at the place 0 at the minute, at 1 in the next one: it rested until then
			want := ends{places: []int{1}}
			if minute > rest {
				want = ends{}
			}
			checkEnds(t, "rest", quick, lost(rest, 9, seen(minute, 1), seen(minute+1, 2)), want)
		}
		checkEnds(t, "it stays", quick, lost(rest, 9, seen(8, 1)), map[bool]ends{true: {[]int{0, 1}, []int{0}}, false: {places: []int{0}}}[rest == 8])
		// whoever is not at the place after so long left before and can be anywhere on
		checkEnds(t, "it left", quick, lost(rest, 9, unseen(rest+1, 1)), ends{[]int{1}, []int{0}})
	}
	long := lost(api.MaxTime, 700, seen(600, 1), seen(601, 2))
	checkEnds(t, "rest MaxTime", quick, long, ends{places: []int{1}})
	long.Clues = []api.Clue{seen(601, 1), seen(602, 2)}
	checkEnds(t, "more than MaxTime", quick, long, ends{})
	long.Clues = []api.Clue{seen(601, 1)}
	checkEnds(t, "it never leaves", quick, long, ends{places: []int{0}})
	// each arrival begins a new rest
	back := net(2, easy(0, 1, 1, 1), easy(1, 0, 1, 1))
	checkEnds(t, "there and back", back, lost(0, 9, seen(2, 1), seen(5, 2), seen(8, 1)), ends{[]int{0, 1}, []int{0}})
	checkEnds(t, "at an odd minute", back, lost(0, 9, seen(3, 1), unseen(4, 1)), ends{})
}

// TestP8_2_held: whoever is held up on a path can be there until Now, but nowhere
// else any more.
func TestP8_2_held(t *testing.T) {
	n := chain()
	for _, now := range []int{21, 100, 500} {
		checkEnds(t, "held up", n, lost(0, now, unseen(20, 7)), ends{nil, []int{0, 1}})
	}
}

// TestP8_2_clues: clues at Start and at Now, of all places, of such that cannot be
// reached, the same one twice, and MaxClues.
func TestP8_2_clues(t *testing.T) {
	n := chain()
	n.Places = 4 // nothing leads to the place 3
	everywhere := ends{[]int{0, 1, 2}, []int{0, 1}}
	checkEnds(t, "no clues", n, lost(5, 30), everywhere)
	for what, x := range map[string]struct {
		clues []api.Clue
		want  ends
	}{
		"seen at Start":             {[]api.Clue{seen(0, 1)}, everywhere},
		"seen at Start elsewhere":   {[]api.Clue{seen(0, 14)}, ends{}},
		"unseen at Start":           {[]api.Clue{unseen(0, 1)}, ends{}},
		"unseen at Start elsewhere": {[]api.Clue{unseen(0, 14)}, everywhere},
		"seen at Now":               {[]api.Clue{seen(30, 2)}, ends{places: []int{1}}},
		"seen at one at Now":        {[]api.Clue{seen(30, 12)}, ends{places: []int{2}}},
		"unseen at Now":             {[]api.Clue{unseen(30, 2)}, ends{[]int{0, 2}, []int{0, 1}}},
		"on a path at Now":          {[]api.Clue{unseen(30, 15)}, ends{paths: []int{0, 1}}},
		"at some place at Now":      {[]api.Clue{seen(30, 15)}, ends{places: []int{0, 1, 2}}},
		"on a path":                 {[]api.Clue{unseen(8, 15)}, everywhere.without(0)},
		"at some place":             {[]api.Clue{seen(8, 15)}, ends{places: []int{0}}},
		"not to be reached":         {[]api.Clue{seen(20, 8)}, ends{}},
		"not there":                 {[]api.Clue{unseen(20, 8)}, everywhere},
		"on the path 0":             {[]api.Clue{unseen(9, 15), unseen(9, 1)}, everywhere.without(0)},
		"twice":                     {[]api.Clue{seen(12, 2), seen(12, 2)}, ends{[]int{1, 2}, []int{1}}},
		"MaxClues":                  {slices.Repeat([]api.Clue{seen(12, 2)}, api.MaxClues), ends{[]int{1, 2}, []int{1}}},
		"both at once":              {[]api.Clue{seen(12, 2), unseen(12, 2)}, ends{}},
		"of two sets at once":       {[]api.Clue{seen(12, 3), seen(12, 6)}, ends{[]int{1, 2}, []int{1}}},
		"in any order":              {[]api.Clue{seen(29, 4), seen(4, 1), unseen(20, 15)}, ends{places: []int{2}}},
	} {
		checkEnds(t, what, n, lost(5, 30, x.clues...), x.want)
	}
}

// without returns the ends without a place.
func (w ends) without(place int) ends {
	return ends{slices.DeleteFunc(slices.Clone(w.places), func(p int) bool { return p == place }), w.paths}
}

// TestP8_2_meeting: a party can be seen at the minutes of arriving and leaving, and
// is on a path just between them.
func TestP8_2_meeting(t *testing.T) {
	n := net(2, easy(0, 1, 5, 5))
	for minute := range 12 {
		// it left at 3 and arrives at 8
		x := lost(3, 12, seen(3, 1), seen(8, 2), seen(minute, 3))
		want := ends{places: []int{1}}
		if minute > 3 && minute < 8 {
			want = ends{}
		}
		checkEnds(t, "seen", n, x, want)
		x.Clues[2] = unseen(minute, 3)
		if want.places == nil {
			want = ends{places: []int{1}}
		} else {
			want = ends{}
		}
		checkEnds(t, "unseen", n, x, want)
	}
}

// TestP8_4_cases: clues that contradict each other alone, in pairs, and only in
// threes; which of several conflicts remains.
func TestP8_4_cases(t *testing.T) {
	n := net(2, easy(0, 1, 5, 5))
	for i, x := range []struct {
		rest  int
		clues []api.Clue
		want  []int
	}{
		{0, []api.Clue{seen(0, 2)}, []int{0}},
		{0, []api.Clue{seen(4, 2)}, []int{0}},
		{0, []api.Clue{unseen(0, 1), unseen(0, 1)}, []int{1}},
		{0, []api.Clue{seen(3, 1), seen(9, 2)}, []int{0, 1}},
		{0, []api.Clue{seen(0, 1), seen(3, 1), unseen(4, 2), seen(9, 2), unseen(12, 1)}, []int{1, 4}}, // without 0, 2 and 3 there still is one
		{0, []api.Clue{seen(0, 1), seen(3, 1), unseen(5, 2), seen(9, 2), unseen(12, 1)}, []int{2, 3}},
		{0, []api.Clue{unseen(12, 1), seen(0, 1), seen(3, 1), seen(9, 2)}, []int{2, 3}},
		{3, []api.Clue{seen(2, 1), seen(6, 2)}, []int{0, 1}},
		{3, []api.Clue{seen(2, 1), seen(8, 2), unseen(7, 2)}, nil},
		// it left by 3; arrived by 8; each two agree: it can stay at 0, be held up, or have arrived
		{3, []api.Clue{unseen(4, 1), seen(12, 3), unseen(12, 2)}, []int{0, 1, 2}},
		{3, []api.Clue{seen(1, 1), unseen(4, 1), unseen(20, 2), seen(12, 3), unseen(12, 2)}, []int{1, 3, 4}},
		{3, []api.Clue{seen(3, 1), seen(8, 2), seen(7, 3)}, []int{0, 1, 2}},
		{3, []api.Clue{seen(3, 1), seen(5, 2), seen(7, 3)}, []int{0, 1}},
	} {
		l, e := missing.Conflict(n, lost(x.rest, 20, x.clues...))
		if !slices.Equal(l, x.want) || (e == api.OK) != (x.want != nil) || x.want == nil && e != api.ErrNone {
			t.Errorf("%d: Conflict = %v, %d, want %v", i, l, e, x.want)
		}
		if x.want != nil && !slices.Equal(conflictOf(n, lost(x.rest, 20, x.clues...)), x.want) {
			t.Errorf("%d: it is another conflict", i)
		}
	}
	if l, e := missing.Conflict(n, lost(3, 20)); len(l) > 0 || e != api.ErrNone {
		t.Errorf("Conflict without clues = %v, %d", l, e)
	}
	all := slices.Repeat([]api.Clue{seen(3, 2)}, api.MaxClues)
	if l, e := missing.Conflict(n, lost(3, 20, all...)); !slices.Equal(l, []int{11}) || e != api.OK {
		t.Errorf("Conflict of MaxClues equal clues = %v, %d", l, e)
	}
}

// TestP8_2_greatest: all limits at once: MaxPlaces, MaxPaths, MaxTime, the slowest
// party, MaxClues, and a day from 0 to MaxMinute.
func TestP8_2_greatest(t *testing.T) {
	n := net(api.MaxPlaces)
	for i := range api.MaxPaths {
		path := easy(i%12, (i+1+i/12*4)%12, 1, api.MaxTime)
		path.Snow, path.Grade = span(0, api.MaxSnow), api.MaxGrade
		n.Paths = append(n.Paths, path)
	}
	x := api.Missed{Party: api.Party{Grade: api.MaxGrade, Pace: span(50, 300), Load: api.MaxLoad}, Rest: api.MaxTime, Now: api.MaxMinute}
	for i := range api.MaxClues {
		x.Clues = append(x.Clues, unseen(200*i+100, 1<<i))
	}
	places, paths := where(t, n, x)
	if len(places) != api.MaxPlaces || len(paths) != api.MaxPaths {
		t.Errorf("Where = %v, %v", places, paths)
	}
	for _, place := range places {
		checkTrace(t, n, x, place, -1, true)
	}
	for _, path := range paths {
		checkTrace(t, n, x, -1, path, true)
	}
	x.Clues[11] = unseen(2880, 1<<12-1)
	if places, paths := where(t, n, x); len(places) > 0 || len(paths) != api.MaxPaths {
		t.Errorf("Where = %v, %v", places, paths)
	}
	x.Clues[11], x.Clues[10] = seen(2879, 1), seen(2880, 1<<11)
	if l, e := missing.Conflict(n, x); !slices.Equal(l, []int{10, 11}) || e != api.OK {
		t.Errorf("Conflict = %v, %d", l, e)
	}
	checkEnds(t, "one way", chain(), lost(0, api.MaxMinute, unseen(2879, 7)), ends{nil, []int{0, 1}})
}

// TestP8_6_cases: spots that are alone, equal, at one place, without weight, without
// search, at all limits, and out of reach.
func TestP8_6_cases(t *testing.T) {
	apart := star(10, 10, 30)
	for i, x := range []struct {
		n     api.Net
		base  int
		spots []api.Spot
		order []int
		cost  int
		e     api.Errno
	}{
		{net(1), 0, []api.Spot{spot(0, 3, 7)}, []int{0}, 21, api.OK},
		{net(1), 0, []api.Spot{spot(0, 0, 0)}, []int{0}, 0, api.OK},
		{net(1), 0, []api.Spot{spot(0, 1, 9), spot(0, 1, 3)}, []int{1, 0}, 15, api.OK},
		{net(1), 0, []api.Spot{spot(0, 1, 3), spot(0, 1, 3), spot(0, 2, 6)}, []int{0, 1, 2}, 33, api.OK},
		{net(1), 0, []api.Spot{spot(0, 0, 5), spot(0, 0, 1)}, []int{0, 1}, 0, api.OK},
		{net(1), 0, []api.Spot{spot(0, 0, 5), spot(0, 1, 600)}, []int{1, 0}, 600, api.OK},
		{net(1), 0, []api.Spot{spot(0, 100, 600), spot(0, 0, 0)}, []int{0, 1}, 60000, api.OK},
		{net(1), 0, slices.Repeat([]api.Spot{spot(0, 100, 600)}, 8), []int{0, 1, 2, 3, 4, 5, 6, 7}, 2160000, api.OK},
		{apart, 0, []api.Spot{spot(1, 1, 0), spot(2, 1, 0)}, []int{0, 1}, 40, api.OK}, // both orders cost the same
		{apart, 0, []api.Spot{spot(2, 1, 0), spot(1, 1, 0)}, []int{0, 1}, 40, api.OK},
		{apart, 2, []api.Spot{spot(1, 1, 0), spot(2, 1, 0)}, []int{1, 0}, 20, api.OK},
		{apart, 0, []api.Spot{spot(1, 1, 0), spot(3, 9, 0)}, []int{1, 0}, 340, api.OK},
		{apart, 0, []api.Spot{spot(1, 1, 0), spot(3, 2, 0)}, []int{0, 1}, 110, api.OK},
		{apart, 0, []api.Spot{spot(1, 2, 0), spot(3, 1, 0), spot(1, 2, 0)}, []int{0, 2, 1}, 90, api.OK},
		// there only is a route in one order, also for a spot without weight
		{chain(), 0, []api.Spot{spot(2, 9, 1), spot(1, 0, 50)}, []int{1, 0}, 9 * 72, api.OK},
		{chain(), 1, []api.Spot{spot(2, 9, 1), spot(0, 0, 0)}, nil, 0, api.ErrNone},
		{chain(), 0, []api.Spot{spot(0, 1, 1), spot(2, 9, 1)}, []int{0, 1}, 1 + 9*23, api.OK},
		{net(2), 0, []api.Spot{spot(1, 0, 0)}, nil, 0, api.ErrNone},
		{net(2), 0, []api.Spot{spot(0, 5, 5), spot(1, 5, 5)}, nil, 0, api.ErrNone},
		{net(3, easy(0, 1, 1, 1), easy(0, 2, 1, 1)), 0, []api.Spot{spot(1, 5, 5), spot(2, 5, 5)}, nil, 0, api.ErrNone},
	} {
		order, cost, e := missing.Plan(x.n, walker(), x.base, x.spots)
		if !slices.Equal(order, x.order) || cost != x.cost || e != x.e {
			t.Errorf("%d: Plan = %v, %d, %d, want %v, %d, %d", i, order, cost, e, x.order, x.cost, x.e)
		}
		orders, least, e := missing.Teams(x.n, walker(), []int{x.base}, x.spots)
		if least != x.cost || e != x.e {
			t.Errorf("%d: Teams = %v, %d, %d", i, orders, least, e)
		}
		if e == api.OK {
			checkTeams(t, waysOf(x.n, walker()), []int{x.base}, x.spots, orders, least)
		}
	}
}

// TestP8_7_cases: equal bases, teams without a spot, and spots that just some teams
// can reach.
func TestP8_7_cases(t *testing.T) {
	one := []api.Spot{spot(1, 2, 5)}
	for i, x := range []struct {
		n     api.Net
		bases []int
		spots []api.Spot
		cost  int
		e     api.Errno
	}{
		{star(10, 20), []int{0}, one, 30, api.OK},
		{star(10, 20), []int{0, 1}, one, 10, api.OK},
		{star(10, 20), []int{1, 1, 1}, one, 10, api.OK},
		{star(10, 20), []int{2, 2}, one, 70, api.OK},
		{star(10, 20), []int{0, 0}, []api.Spot{spot(1, 1, 0), spot(2, 1, 0)}, 30, api.OK},
		{star(10, 20), []int{0, 0}, []api.Spot{spot(1, 1, 0), spot(1, 1, 0)}, 20, api.OK},
		{star(10, 20), []int{0, 0}, []api.Spot{spot(1, 1, 4), spot(1, 1, 4)}, 28, api.OK},
		{star(10, 20), []int{0, 0, 0}, []api.Spot{spot(0, 1, 5), spot(0, 1, 5), spot(0, 1, 5), spot(0, 1, 5)}, 25, api.OK},
		{net(3), []int{0, 1, 2}, []api.Spot{spot(0, 3, 1), spot(1, 4, 1), spot(2, 5, 1)}, 12, api.OK},
		{net(3), []int{0, 1}, []api.Spot{spot(0, 3, 1), spot(1, 4, 1), spot(2, 0, 1)}, 0, api.ErrNone},
		{net(3, easy(0, 1, 1, 1), easy(0, 2, 1, 1)), []int{0, 0}, []api.Spot{spot(1, 1, 0), spot(2, 1, 0)}, 2, api.OK},
		{net(3, easy(0, 1, 1, 1), easy(0, 2, 1, 1)), []int{0, 1}, []api.Spot{spot(1, 1, 0), spot(2, 1, 0)}, 1, api.OK},
		{net(3, easy(0, 1, 1, 1), easy(0, 2, 1, 1)), []int{1, 2}, []api.Spot{spot(1, 1, 0), spot(0, 0, 0)}, 0, api.ErrNone},
		{net(1), []int{0, 0, 0}, slices.Repeat([]api.Spot{spot(0, 100, 600)}, 8), 60000 * (3*1 + 3*2 + 2*3), api.OK},
	} {
		orders, cost, e := missing.Teams(x.n, walker(), x.bases, x.spots)
		if cost != x.cost || e != x.e || e != api.OK && len(orders) > 0 {
			t.Errorf("%d: Teams = %v, %d, %d, want %d, %d", i, orders, cost, e, x.cost, x.e)
		}
		if e == api.OK {
			checkTeams(t, waysOf(x.n, walker()), x.bases, x.spots, orders, cost)
		}
	}
}

// TestP8_8_cases: minutes 0 and MaxMinute, spots that are out of reach, and the best
// of several spots.
func TestP8_8_cases(t *testing.T) {
	for i, x := range []struct {
		n       api.Net
		base    int
		spots   []api.Spot
		minutes int
		want    int
	}{
		{net(1), 0, []api.Spot{spot(0, 7, 0)}, 0, 7},
		{net(1), 0, []api.Spot{spot(0, 7, 0), spot(0, 8, 0), spot(0, 9, 1)}, 0, 15},
		{net(1), 0, []api.Spot{spot(0, 7, 1)}, 0, 0},
		{net(1), 0, []api.Spot{spot(0, 7, 1)}, 1, 7},
		{net(2), 0, []api.Spot{spot(1, 7, 0)}, api.MaxMinute, 0},
		{net(2), 0, []api.Spot{spot(1, 7, 0), spot(0, 2, 600)}, api.MaxMinute, 2},
		{net(3, easy(0, 1, 1, 1), easy(0, 2, 1, 1)), 0, []api.Spot{spot(1, 7, 0), spot(2, 8, 0), spot(0, 1, 0)}, api.MaxMinute, 9},
		{star(10, 20), 0, []api.Spot{spot(1, 5, 0), spot(2, 6, 0)}, 19, 5},
		{star(10, 20), 0, []api.Spot{spot(1, 5, 0), spot(2, 6, 0)}, 20, 6},
		{star(10, 20), 0, []api.Spot{spot(1, 5, 0), spot(2, 6, 0)}, 39, 6},
		{star(10, 20), 0, []api.Spot{spot(1, 5, 0), spot(2, 6, 0)}, 40, 11},
		{net(1), 0, slices.Repeat([]api.Spot{spot(0, 100, 600)}, 8), api.MaxMinute, 400},
		{net(1), 0, slices.Repeat([]api.Spot{spot(0, 100, 360)}, 8), api.MaxMinute, 800},
		{net(1), 0, slices.Repeat([]api.Spot{spot(0, 0, 0)}, 8), api.MaxMinute, 0},
	} {
		if most, e := missing.Most(x.n, walker(), x.base, x.spots, x.minutes); most != x.want || e != api.OK {
			t.Errorf("%d: Most by %d = %d, %d, want %d", i, x.minutes, most, e, x.want)
		}
	}
}
