package paths_test

import (
	"math/rand"
	"slices"
	"testing"

	"bivouac/api"
	"bivouac/paths"
)

// eachCase calls check for many random nets and parties, each time from a place
// at a minute; in some nets the minutes are the last ones before MaxMinute.
func eachCase(t *testing.T, seed int64, cases int, check func(r *rand.Rand, n api.Net, p api.Party, from, start int)) {
	t.Helper()
	r := rand.New(rand.NewSource(seed))
	for i := range cases {
		n, p := randomNet(r), randomParty(r)
		from, start := r.Intn(n.Places), r.Intn(60)
		if i%4 == 0 {
			start += api.MaxMinute - 100
			moveOpens(n, api.MaxMinute-100)
		}
		check(r, n, p, from, start)
		if t.Failed() {
			t.Fatalf("case %d: net %v, party %v, from %d at %d", i, n, p, from, start)
		}
	}
}

func moveOpens(n api.Net, by int) {
	for _, path := range n.Paths {
		for i, s := range path.Opens {
			path.Opens[i] = span(min(s.Low+by, api.MaxMinute), min(s.High+by, api.MaxMinute))
		}
	}
}

// TestP1_3_all compares Arrive with all that a party can do that may wait. For
// the sure arrival that is P1.10, too.
func TestP1_3_all(t *testing.T) {
	eachCase(t, 3, 300, func(r *rand.Rand, n api.Net, p api.Party, from, start int) {
		sure, best, e := paths.Arrive(n, p, from, start)
		wantSure, wantBest := reachable(n, p, from, start, slowest), reachable(n, p, from, start, fastest)
		if e != api.OK || !slices.Equal(sure, wantSure) || !slices.Equal(best, wantBest) {
			t.Errorf("Arrive = %v, %v, %d, want %v, %v", sure, best, e, wantSure, wantBest)
		}
	})
}

// checkRoutes compares Route with all routes, those included that come to a
// place again.
func checkRoutes(t *testing.T, n api.Net, p api.Party, from, start int) {
	t.Helper()
	arrivals := slices.Repeat([]int{-1}, n.Places)
	routes := make([][]int, n.Places)
	eachRoute(n, p, from, min(n.Places, 5), func(route []int, to int) {
		arrival := followSurely(n, p, route, start)
		if arrival >= 0 && (arrivals[to] < 0 || better(route, arrival, routes[to], arrivals[to])) {
			arrivals[to], routes[to] = arrival, route
		}
	})
	for to := range n.Places {
		route, arrival, e := paths.Route(n, p, from, start, to)
		if arrivals[to] < 0 {
			if e != api.ErrNone || arrival != 0 || len(route) > 0 {
				t.Errorf("Route to %d = %v, %d, %d, want none", to, route, arrival, e)
			}
		} else if e != api.OK || arrival != arrivals[to] || !slices.Equal(route, routes[to]) {
			t.Errorf("Route to %d = %v, %d, %d, want %v, %d", to, route, arrival, e, routes[to], arrivals[to])
		}
	}
}

// TestP1_4_all: in any nets Route is the first one of the best routes.
func TestP1_4_all(t *testing.T) {
	eachCase(t, 4, 300, func(r *rand.Rand, n api.Net, p api.Party, from, start int) {
		checkRoutes(t, n, p, from, start)
	})
}

// TestP1_4_even: so it is where many routes arrive at the same minute.
func TestP1_4_even(t *testing.T) {
	r := rand.New(rand.NewSource(44))
	for i := range 300 {
		n := evenNet(r)
		checkRoutes(t, n, exampleParty(), r.Intn(n.Places), r.Intn(20))
		if t.Failed() {
			t.Fatalf("case %d: net %v", i, n)
		}
	}
}

// TestP1_7_all compares Within with the arrivals of Arrive.
func TestP1_7_all(t *testing.T) {
	eachCase(t, 7, 300, func(r *rand.Rand, n api.Net, p api.Party, from, start int) {
		deadline := min(start-5+r.Intn(100), api.MaxMinute)
		if deadline < 0 {
			return
		}
		sure, may, e := paths.Within(n, p, from, start, deadline)
		arrivals, bests, _ := paths.Arrive(n, p, from, start)
		for place := range n.Places {
			if e != api.OK || slices.Contains(sure, place) != keeps(arrivals[place], deadline) || slices.Contains(may, place) != keeps(bests[place], deadline) {
				t.Errorf("Within %d = %v, %v, %d", deadline, sure, may, e)
			}
		}
		if !slices.IsSorted(sure) || !slices.IsSorted(may) {
			t.Errorf("Within %d = %v, %v", deadline, sure, may)
		}
	})
}

// TestP1_9: whatever times the paths take, the route of Route ends neither
// after its arrival nor before the best one.
func TestP1_9(t *testing.T) {
	eachCase(t, 9, 300, func(r *rand.Rand, n api.Net, p api.Party, from, start int) {
		to := r.Intn(n.Places)
		route, arrival, e := paths.Route(n, p, from, start, to)
		if e != api.OK {
			return
		}
		_, best, _ := paths.Arrive(n, p, from, start)
		for range 20 {
			end := follow(n, route, start, func(path api.Path) int {
				low, high := fastest(path, p), slowest(path, p)
				return low + r.Intn(high-low+1)
			})
			if end < best[to] || end > arrival {
				t.Errorf("the route %v to %d ends at %d, not from %d to %d", route, to, end, best[to], arrival)
			}
		}
		if end := followSurely(n, p, route, start); end != arrival {
			t.Errorf("the route %v to %d ends at %d, not at %d", route, to, end, arrival)
		}
	})
}

// TestP1_10: nobody arrives sooner than with Route, even after waiting.
func TestP1_10(t *testing.T) {
	eachCase(t, 10, 200, func(r *rand.Rand, n api.Net, p api.Party, from, start int) {
		for to, first := range reachable(n, p, from, start, slowest) {
			_, arrival, e := paths.Route(n, p, from, start, to)
			if (e == api.OK) != (first >= 0) || e == api.OK && arrival != first {
				t.Errorf("Route to %d: %d, %d; with waiting %d", to, arrival, e, first)
			}
		}
	})
}

// ease makes something easier for the party, in one of the ways of P1.11.
func ease(r *rand.Rand, n *api.Net, p *api.Party) {
	if len(n.Paths) > 0 {
		path := &n.Paths[r.Intn(len(n.Paths))]
		switch r.Intn(3) {
		case 0:
			path.Grade = 1 + r.Intn(path.Grade)
		case 1:
			path.Snow = span(r.Intn(path.Snow.Low+1), r.Intn(path.Snow.High+1))
			path.Snow.Low = min(path.Snow.Low, path.Snow.High)
		case 2:
			for i, s := range path.Opens {
				path.Opens[i] = span(r.Intn(s.Low+1), s.High+r.Intn(api.MaxMinute-s.High+1))
			}
		}
	}
	switch r.Intn(4) {
	case 0:
		p.Load = r.Intn(p.Load + 1)
	case 1:
		p.Pace.High -= r.Intn(p.Pace.High - p.Pace.Low + 1)
	case 2:
		n.Paths = append(n.Paths, randomPath(r, n.Places))
	}
}

// TestP1_11: who starts later does not arrive sooner; with what is easier
// nobody arrives later.
func TestP1_11(t *testing.T) {
	eachCase(t, 11, 600, func(r *rand.Rand, n api.Net, p api.Party, from, start int) {
		sure, best, _ := paths.Arrive(n, p, from, start)
		later := min(start+1+r.Intn(20), api.MaxMinute)
		laterSure, laterBest, _ := paths.Arrive(n, p, from, later)
		if !notLater(sure, laterSure) || !notLater(best, laterBest) {
			t.Errorf("from %d: %v, %v; from %d: %v, %v", start, sure, best, later, laterSure, laterBest)
		}
		easier, quicker := copyNet(n), p
		ease(r, &easier, &quicker)
		if easierSure, _, e := paths.Arrive(easier, quicker, from, start); e != api.OK || !notLater(easierSure, sure) {
			t.Errorf("%v, but with %v, %v: %v, %d", sure, easier, quicker, easierSure, e)
		}
	})
}

// TestP1_12: until Latest each start is in time, and none after it.
func TestP1_12(t *testing.T) {
	eachCase(t, 12, 150, func(r *rand.Rand, n api.Net, p api.Party, from, start int) {
		to, deadline := r.Intn(n.Places), min(start+r.Intn(100), api.MaxMinute)
		latest, e := paths.Latest(n, p, from, to, deadline)
		if e == api.ErrNone && latest == 0 {
			latest = -1
		} else if e != api.OK {
			t.Errorf("Latest to %d by %d = %d, %d", to, deadline, latest, e)
		}
		for minute := max(0, deadline-300); minute <= api.MaxMinute && minute <= deadline+20; minute++ {
			if keeps(sureAt(t, n, p, from, minute, to), deadline) != (minute <= latest) {
				t.Errorf("Latest to %d by %d = %d, %d; wrong for %d", to, deadline, latest, e, minute)
			}
		}
		if keeps(sureAt(t, n, p, from, 0, to), deadline) != (latest >= 0) {
			t.Errorf("Latest to %d by %d = %d, %d; wrong for 0", to, deadline, latest, e)
		}
	})
}

// TestP1_13: just without a path of Vital the party is late, and each of them
// is in the route of Route. This is P1.6, too.
func TestP1_13(t *testing.T) {
	eachCase(t, 13, 400, func(r *rand.Rand, n api.Net, p api.Party, from, start int) {
		to, deadline := r.Intn(n.Places), min(start+r.Intn(100), api.MaxMinute)
		vital, e := paths.Vital(n, p, from, start, to, deadline)
		if !keeps(sureAt(t, n, p, from, start, to), deadline) {
			if e != api.ErrNone || len(vital) > 0 {
				t.Errorf("Vital to %d by %d = %v, %d, want none", to, deadline, vital, e)
			}
			return
		}
		if e != api.OK || !slices.IsSorted(vital) {
			t.Errorf("Vital to %d by %d = %v, %d", to, deadline, vital, e)
		}
		route, _, _ := paths.Route(n, p, from, start, to)
		for path := range n.Paths {
			closed := copyNet(n)
			closed.Paths = slices.Delete(closed.Paths, path, path+1)
			isVital := slices.Contains(vital, path)
			if keeps(sureAt(t, closed, p, from, start, to), deadline) == isVital {
				t.Errorf("Vital to %d by %d = %v; wrong for the path %d", to, deadline, vital, path)
			}
			if isVital && !slices.Contains(route, path) {
				t.Errorf("Vital to %d by %d = %v; the route is %v", to, deadline, vital, route)
			}
		}
	})
}

// TestP1_14: from each place up to Turn the party surely is home in time, and
// not from the next one. This is P1.8, too.
func TestP1_14(t *testing.T) {
	eachCase(t, 14, 400, func(r *rand.Rand, n api.Net, p api.Party, from, start int) {
		home, deadline := r.Intn(n.Places), min(start+r.Intn(150), api.MaxMinute)
		eachRoute(n, p, from, 4, func(route []int, to int) {
			k, e := paths.Turn(n, p, route, from, start, home, deadline)
			want, at := -1, from
			for i := range len(route) + 1 {
				if i > 0 {
					at = n.Paths[route[i-1]].To
				}
				minute := followSurely(n, p, route[:i], start)
				if minute < 0 || !keeps(sureAt(t, n, p, at, minute, home), deadline) {
					break
				}
				want = i
			}
			if k != want || e != api.OK {
				t.Errorf("Turn of %v to %d, home %d by %d = %d, %d, want %d", route, to, home, deadline, k, e, want)
			}
		})
	})
}
