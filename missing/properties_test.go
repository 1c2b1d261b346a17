package missing_test

import (
	"math/rand"
	"slices"
	"testing"

	"bivouac/api"
	"bivouac/missing"
	"bivouac/paths"
	"bivouac/weather"
)

// TestP8_2_traces: in tiny cases Where is what all traces say. This is P8.3, too.
func TestP8_2_traces(t *testing.T) {
	none, some, several := 0, 0, 0
	eachHunt(t, tiny(), 2, 2500, func(r *rand.Rand, n api.Net, x api.Missed) {
		want := tracesOf(n, x)
		checkWhere(t, n, x, want)
		none += isTrue(want.isNone())
		some += isTrue(!want.isNone() && len(x.Clues) > 1)
		several += isTrue(len(want.places) > 1 && len(want.paths) > 1)
	})
	if min(none, some, several) < 200 {
		t.Errorf("just %d cases without a trace, %d with one and clues, and %d with several ends", none, some, several)
	}
}

// TestP8_2_states: in greater cases Where is what all states say, minute by minute.
// This is P8.3, too.
func TestP8_2_states(t *testing.T) {
	none, some, several := 0, 0, 0
	visit := func(r *rand.Rand, n api.Net, x api.Missed) {
		want := whereOf(n, x)
		checkWhere(t, n, x, want)
		none += isTrue(want.isNone())
		some += isTrue(!want.isNone() && len(x.Clues) > 1)
		several += isTrue(len(want.places) > 1 && len(want.paths) > 1)
	}
	eachHunt(t, small(), 20, 2000, visit)
	eachHunt(t, large(), 21, 25, visit)
	if min(none, some, several) < 200 {
		t.Errorf("just %d cases without a trace, %d with one and clues, and %d with several ends", none, some, several)
	}
}

// TestP8_4_all: Conflict is what remains if one clue is removed after the other.
func TestP8_4_all(t *testing.T) {
	sizes := map[int]int{}
	eachHunt(t, small(), 4, 2500, func(r *rand.Rand, n api.Net, x api.Missed) {
		for range r.Intn(3) {
			x.Clues = append(x.Clues, api.Clue{Minute: x.Start + r.Intn(x.Now-x.Start+1), Places: 1 + r.Intn(1<<n.Places-1), Seen: r.Intn(2) == 0})
		}
		l, e := missing.Conflict(n, x)
		sizes[len(l)]++
		if whereOf(n, x).isNone() {
			if want := conflictOf(n, x); !slices.Equal(l, want) || e != api.OK {
				t.Errorf("Conflict of %v = %v, %d, want %v", x.Clues, l, e, want)
			}
		} else if len(l) > 0 || e != api.ErrNone {
			t.Errorf("Conflict of %v = %v, %d, want none", x.Clues, l, e)
		}
	})
	if min(sizes[0], sizes[1], sizes[2]) < 200 || sizes[3] < 20 {
		t.Errorf("just so many cases of each size: %v", sizes)
	}
}

// TestP8_5_all: Way is the least sum of all routes.
func TestP8_5_all(t *testing.T) {
	far, without := 0, 0
	eachSearch(t, 5, 1000, 1, func(r *rand.Rand, n api.Net, p api.Party, bases []int, spots []api.Spot) {
		for from, ways := range waysOf(n, p) {
			for to, want := range ways {
				way, e := missing.Way(n, p, from, to)
				if want == none && (way != 0 || e != api.ErrNone) || want != none && (way != want || e != api.OK) {
					t.Errorf("Way from %d to %d = %d, %d, want %d", from, to, way, e, want)
				}
				far += isTrue(way > small().time*2)
				without += isTrue(want == none)
			}
		}
	})
	if min(far, without) < 200 {
		t.Errorf("just %d long ways, and %d without a route", far, without)
	}
}

// TestP8_6_all: Plan is the first of all orders with the least cost.
func TestP8_6_all(t *testing.T) {
	none, equal, other := 0, 0, 0
	eachSearch(t, 6, 1500, 6, func(r *rand.Rand, n api.Net, p api.Party, bases []int, spots []api.Spot) {
		checkPlan(t, n, p, bases[0], spots)
		want := planOf(waysOf(n, p), bases[0], spots, elements(1<<len(spots)-1))
		none += isTrue(want.equal == 0)
		equal += isTrue(want.equal > 1)
		other += isTrue(want.equal > 0 && !slices.IsSorted(want.order))
	})
	if min(none, equal, other) < 200 {
		t.Errorf("just %d cases without a plan, %d with several, and %d not in order", none, equal, other)
	}
	eachSearch(t, 66, 3, 1, func(r *rand.Rand, n api.Net, p api.Party, bases []int, spots []api.Spot) {
		n = star(r.Intn(9), r.Intn(9), r.Intn(9))
		for i := range n.Paths {
			n.Paths[i].Time = span(1+i, 9)
		}
		spots = nil
		for len(spots) < api.MaxSpots {
			spots = append(spots, randomSpots(r, n, 1)...)
		}
		checkPlan(t, n, walker(), 0, spots)
	})
}

// checkPlan compares Plan with all orders.
func checkPlan(t *testing.T, n api.Net, p api.Party, base int, spots []api.Spot) {
	t.Helper()
	want := planOf(waysOf(n, p), base, spots, elements(1<<len(spots)-1))
	order, cost, e := missing.Plan(n, p, base, spots)
	if want.equal == 0 {
		if len(order) > 0 || cost != 0 || e != api.ErrNone {
			t.Errorf("Plan = %v, %d, %d, want none", order, cost, e)
		}
	} else if !slices.Equal(order, want.order) || cost != want.cost || e != api.OK {
		t.Errorf("Plan = %v, %d, %d, want %+v", order, cost, e, want)
	}
}

// TestP8_7_all: no way to share the spots out costs less than Teams.
func TestP8_7_all(t *testing.T) {
	without, idle, shared := 0, 0, 0
	eachSearch(t, 7, 1500, 5, func(r *rand.Rand, n api.Net, p api.Party, bases []int, spots []api.Spot) {
		ways := waysOf(n, p)
		want := teamsOf(ways, bases, spots)
		orders, cost, e := missing.Teams(n, p, bases, spots)
		if want == none {
			without++
			if len(orders) > 0 || cost != 0 || e != api.ErrNone {
				t.Errorf("Teams = %v, %d, %d, want none", orders, cost, e)
			}
			return
		}
		if cost != want || e != api.OK {
			t.Errorf("Teams = %v, %d, %d, want %d", orders, cost, e, want)
		}
		checkTeams(t, ways, bases, spots, orders, cost)
		busy := len(slices.DeleteFunc(orders, func(order []int) bool { return len(order) == 0 }))
		idle += isTrue(busy < len(bases))
		shared += isTrue(busy > 1)
	})
	if min(without, idle, shared) < 200 {
		t.Errorf("just %d cases without plans, %d with an idle team, and %d with several teams", without, idle, shared)
	}
}

// TestP8_8_all: no order of any spots has done more by a minute than Most.
func TestP8_8_all(t *testing.T) {
	part := 0
	eachSearch(t, 8, 800, 5, func(r *rand.Rand, n api.Net, p api.Party, bases []int, spots []api.Spot) {
		ways := waysOf(n, p)
		for _, minutes := range []int{0, r.Intn(20), r.Intn(60), r.Intn(api.MaxMinute + 1)} {
			want := mostOf(ways, bases[0], spots, minutes)
			if most, e := missing.Most(n, p, bases[0], spots, minutes); most != want || e != api.OK {
				t.Errorf("Most by %d = %d, %d, want %d", minutes, most, e, want)
			}
			part += isTrue(want > 0 && want < weightOf(spots, elements(1<<len(spots)-1)))
		}
	})
	if part < 200 {
		t.Errorf("just %d cases with a part of the weights", part)
	}
}

// isAt reports whether a party at the end of a trace is where Where says.
func isAt(t *testing.T, n api.Net, x api.Missed, last api.Pass) bool {
	t.Helper()
	places, paths := where(t, n, x)
	if last.Path >= 0 {
		return slices.Contains(paths, last.Path)
	}
	return slices.Contains(places, last.Place)
}

// TestP8_9: whatever a party did, it is where Where says if it agrees with all clues;
// and each place and path is the end of the trace of Trace.
func TestP8_9(t *testing.T) {
	held, away := 0, 0
	for cases, z := range map[int]size{500: small(), 120: large()} {
		eachHunt(t, z, 9, cases, func(r *rand.Rand, n api.Net, x api.Missed) {
			x.Clues = nil
			trace := pickTrace(r, n, x)
			if !isTrace(n, x, trace) {
				t.Fatalf("%v is no trace", trace)
			}
			for range r.Intn(z.clues + 1) {
				x.Clues = append(x.Clues, pickClue(r, n, x, trace))
			}
			last := trace[len(trace)-1]
			if !isAt(t, n, x, last) {
				t.Errorf("Where does not have the end of %v", trace)
			}
			places, ways := where(t, n, x)
			for _, place := range places {
				checkTrace(t, n, x, place, -1, true)
			}
			for _, path := range ways {
				checkTrace(t, n, x, -1, path, true)
			}
			held += isTrue(last.Path >= 0 && x.Now-last.Leave > timeOf(n.Paths[last.Path], x.Party).High || last.Path < 0 && x.Now-last.Arrive > x.Rest)
			away += isTrue(len(trace) > 2)
		})
	}
	if min(held, away) < 100 {
		t.Errorf("just %d parties that are held up, and %d that went on", held, away)
	}
}

// isPart reports whether a sorted list has all elements of another one.
func isPart(part, list []int) bool {
	return !slices.ContainsFunc(part, func(i int) bool { return !slices.Contains(list, i) })
}

// TestP8_10: with one more clue nothing is added to Where; with a greater Rest, a
// longer Time or one more path nothing is lost; what opens does not matter.
func TestP8_10(t *testing.T) {
	changed := map[string]int{}
	eachHunt(t, small(), 10, 3000, func(r *rand.Rand, n api.Net, x api.Missed) {
		x.Rest /= 2
		places, ways := where(t, n, x)
		compare := func(what string, n api.Net, x api.Missed, more, less bool) {
			t.Helper()
			otherPlaces, otherWays := where(t, n, x)
			if less && (!isPart(places, otherPlaces) || !isPart(ways, otherWays)) || more && (!isPart(otherPlaces, places) || !isPart(otherWays, ways)) {
				t.Errorf("%s: %v, %v, but it was %v, %v", what, otherPlaces, otherWays, places, ways)
			}
			changed[what] += isTrue(len(otherPlaces)+len(otherWays) != len(places)+len(ways))
		}
		clue := api.Clue{Minute: x.Start + r.Intn(x.Now-x.Start+1), Places: 1 + r.Intn(1<<n.Places-1), Seen: r.Intn(2) == 0}
		compare("one more clue", n, withClues(x, clue), true, false)
		rested := x
		rested.Rest += 1 + r.Intn(9)
		compare("a greater Rest", n, rested, false, true)
		if n.Places > 1 {
			wider := copyNet(n)
			wider.Paths = append(wider.Paths, small().path(r, n.Places))
			compare("one more path", wider, x, false, true)
		}
		if len(n.Paths) > 0 {
			longer, other := copyNet(n), copyNet(n)
			for _, i := range r.Perm(len(n.Paths))[r.Intn(len(n.Paths)):] {
				time := &longer.Paths[i].Time
				*time = span(1+r.Intn(time.Low), time.High+r.Intn(9))
			}
			compare("a longer Time", longer, x, false, true)
			for i := range other.Paths {
				other.Paths[i].Opens = []api.Span{randomSpan(r, 0, 50)}[:r.Intn(2)]
			}
			compare("other Opens", other, x, true, true)
		}
	})
	for _, what := range []string{"one more clue", "a greater Rest", "one more path", "a longer Time"} {
		if changed[what] < 50 {
			t.Errorf("%s changes something just %d times", what, changed[what])
		}
	}
}

// with returns a missed party with just some of its clues.
func with(x api.Missed, numbers []int) api.Missed {
	all := x.Clues
	x.Clues = nil
	for _, i := range numbers {
		x.Clues = append(x.Clues, all[i])
	}
	return x
}

// TestP8_11: no trace is possible with the clues of Conflict, and some is without any
// one of them.
func TestP8_11(t *testing.T) {
	for cases, z := range map[int]size{1500: small(), 500: large()} {
		several := 0
		eachHunt(t, z, 11, cases, func(r *rand.Rand, n api.Net, x api.Missed) {
			numbers, e := missing.Conflict(n, x)
			if e != api.OK {
				return
			}
			left := with(x, numbers)
			if _, _, e := missing.Where(n, left); e != api.ErrNone || !slices.IsSorted(numbers) {
				t.Errorf("Conflict %v: Where is %d", numbers, e)
			}
			for i := range numbers {
				if _, _, e := missing.Where(n, withoutClue(left, i)); e != api.OK {
					t.Errorf("Conflict %v: without %d Where is %d", numbers, numbers[i], e)
				}
			}
			several += isTrue(len(numbers) > 1)
		})
		if several < 50 {
			t.Errorf("just %d conflicts of several clues", several)
		}
	}
}

// TestP8_12: no plan of some order has less cost than Plan, and no plans have less
// than Teams; with one base they are equal, with one more base none is greater.
func TestP8_12(t *testing.T) {
	less, none := 0, 0
	eachSearch(t, 12, 1000, api.MaxSpots, func(r *rand.Rand, n api.Net, p api.Party, bases []int, spots []api.Spot) {
		_, cost, e := missing.Plan(n, p, bases[0], spots)
		ways := waysOf(n, p)
		for range 20 {
			if other, _ := carriedOut(ways, bases[0], spots, r.Perm(len(spots))); other >= 0 && (e != api.OK || other < cost) {
				t.Errorf("Plan costs %d, %d, another one %d", cost, e, other)
			}
		}
		for i := range bases {
			_, next, e2 := missing.Teams(n, p, bases[:i+1], spots)
			if i == 0 && (next != cost || e2 != e) || e == api.OK && (e2 != api.OK || next > cost) {
				t.Errorf("Teams of %v costs %d, %d, with fewer bases %d, %d", bases[:i+1], next, e2, cost, e)
			}
			less += isTrue(e == api.OK && next < cost)
			none += isTrue(e != api.OK && e2 == api.OK)
			cost, e = next, e2
		}
	})
	if min(less, none) < 50 {
		t.Errorf("just %d times it costs less with one more base, and %d times there only then are plans", less, none)
	}
}

// TestP8_13: if all ways are 0, spots with more Weight for each minute of Search come
// first; Most grows with the minutes up to all Weights.
func TestP8_13(t *testing.T) {
	r := rand.New(rand.NewSource(13))
	for range 500 {
		spots := randomSpots(r, net(1), api.MaxSpots)
		order, _, e := missing.Plan(net(1), walker(), 0, spots)
		if e != api.OK {
			t.Fatalf("Plan of %v: %d", spots, e)
		}
		for i, b := range order[1:] {
			if a := order[i]; spots[a].Weight*spots[b].Search < spots[b].Weight*spots[a].Search {
				t.Fatalf("Plan of %v = %v", spots, order)
			}
		}
	}
	whole := 0
	eachSearch(t, 130, 300, 6, func(r *rand.Rand, n api.Net, p api.Party, bases []int, spots []api.Spot) {
		before := 0
		for minutes := 0; minutes < 100; minutes += 1 + r.Intn(9) {
			most, e := missing.Most(n, p, bases[0], spots, minutes)
			if most < before || e != api.OK {
				t.Errorf("Most by %d = %d, %d, before it was %d", minutes, most, e, before)
			}
			before = most
		}
		order, _, e := missing.Plan(n, p, bases[0], spots)
		if e != api.OK {
			return
		}
		all := weightOf(spots, order)
		if _, minute := carriedOut(waysOf(n, p), bases[0], spots, order); minute <= api.MaxMinute {
			if most, e := missing.Most(n, p, bases[0], spots, minute); most != all || e != api.OK {
				t.Errorf("Most by %d = %d, %d, want %d", minute, most, e, all)
			}
			whole++
		}
	})
	if whole < 100 {
		t.Errorf("just %d plans", whole)
	}
}

// TestP8_14: no way is longer than over a third place.
func TestP8_14(t *testing.T) {
	checked := 0
	eachSearch(t, 14, 600, 1, func(r *rand.Rand, n api.Net, p api.Party, bases []int, spots []api.Spot) {
		from, over, to := r.Intn(n.Places), r.Intn(n.Places), r.Intn(n.Places)
		a, e1 := missing.Way(n, p, from, over)
		b, e2 := missing.Way(n, p, over, to)
		if e1 != api.OK || e2 != api.OK {
			return
		}
		if way, e := missing.Way(n, p, from, to); way > a+b || e != api.OK {
			t.Errorf("Way from %d to %d = %d, %d, over %d it is %d", from, to, way, e, over, a+b)
		}
		checked++
	})
	if checked < 100 {
		t.Errorf("just %d cases", checked)
	}
}

// walked returns what a party did until Now that walks a route and enters each path
// at the first minute at which it opens, with any times; nothing if it rests at some
// place for too long.
func walked(r *rand.Rand, n api.Net, x api.Missed, route []int) []api.Pass {
	var trace []api.Pass
	place, minute := x.Place, x.Start
	for _, i := range route {
		opens := func(s api.Span) bool { return isIn(minute, s) }
		arrive := minute
		for minute < x.Now && !slices.ContainsFunc(n.Paths[i].Opens, opens) {
			minute++
		}
		if minute == x.Now {
			return append(trace, pass(place, arrive, x.Now, -1))
		}
		if minute-arrive > x.Rest {
			return nil
		}
		trace = append(trace, pass(place, arrive, minute, i))
		time := timeOf(n.Paths[i], x.Party)
		minute += time.Low + r.Intn(time.High-time.Low+1)
		if minute > x.Now {
			return trace
		}
		place = n.Paths[i].To
	}
	return append(trace, pass(place, minute, x.Now, -1))
}

// TestP0_3_walks: who walks the best route, whatever time its paths take, is where
// Where says.
func TestP0_3_walks(t *testing.T) {
	on, there := 0, 0
	eachHunt(t, small(), 3, 4000, func(r *rand.Rand, n api.Net, x api.Missed) {
		route, arrival, e := paths.Route(n, x.Party, x.Place, x.Start, r.Intn(n.Places))
		if e != api.OK {
			return
		}
		x.Clues, x.Now = nil, x.Start+r.Intn(arrival-x.Start+5)
		trace := walked(r, n, x, route)
		if trace == nil {
			return
		}
		for range r.Intn(3) {
			x.Clues = append(x.Clues, pickClue(r, n, x, trace))
		}
		last := trace[len(trace)-1]
		if !isTrace(n, x, trace) || !isAt(t, n, x, last) {
			t.Errorf("Where does not have the end of %v", trace)
		}
		on += isTrue(last.Path >= 0)
		there += isTrue(last.Path < 0 && len(trace) > 1)
	})
	if min(on, there) < 100 {
		t.Errorf("just %d parties on a path, and %d at another place", on, there)
	}
}

// TestP0_3_closed: neither where a party can be nor a way depends on the paths that
// rules close.
func TestP0_3_closed(t *testing.T) {
	wild := api.Hour{Wind: span(90, 100), Temp: span(0, 10)}
	storm := api.Forecast{Scenarios: []api.Scenario{{Hours: slices.Repeat([]api.Hour{wild}, 6)}}}
	var rules []api.Rule
	for path := range exampleN().Paths {
		rules = append(rules, api.Rule{Path: path, Limits: api.Limits{Wind: 40, Temp: span(-5, 15)}})
	}
	for count := range len(rules) + 1 {
		n, e := weather.Safe(exampleN(), rules[:count], storm, nil)
		if e != api.OK {
			t.Fatalf("Safe: %d", e)
		}
		if count > 0 && len(n.Paths[0].Opens) > 0 {
			t.Fatal("the path 0 is not closed")
		}
		checkEnds(t, "closed", n, exampleX(), ends{[]int{1, 2, 3}, []int{1, 2, 4}})
		if way, e := missing.Way(n, exampleP(), 0, 3); way != 315 || e != api.OK {
			t.Errorf("Way = %d, %d", way, e)
		}
	}
}

// TestP0_3_open: if all paths are always open the way is what a sure arrival takes.
func TestP0_3_open(t *testing.T) {
	some, without := 0, 0
	eachSearch(t, 30, 500, 1, func(r *rand.Rand, n api.Net, p api.Party, bases []int, spots []api.Spot) {
		n = copyNet(n)
		for i := range n.Paths {
			n.Paths[i].Opens = always()
		}
		start := r.Intn(500)
		sure, _, _ := paths.Arrive(n, p, bases[0], start)
		for to, arrival := range sure {
			way, e := missing.Way(n, p, bases[0], to)
			if (e == api.OK) != (arrival >= 0) || e == api.OK && start+way != arrival {
				t.Errorf("Way from %d to %d = %d, %d, but it arrives at %d", bases[0], to, way, e, arrival)
			}
			some += isTrue(way > 0)
			without += isTrue(e != api.OK)
		}
	})
	if min(some, without) < 100 {
		t.Errorf("just %d ways, and %d places without one", some, without)
	}
}
