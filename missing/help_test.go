package missing_test

import (
	"math/rand"
	"slices"
	"testing"

	"bivouac/api"
	"bivouac/missing"
)

func span(low, high int) api.Span { return api.Span{Low: low, High: high} }

// always is the Opens of a path that is never closed.
func always() []api.Span { return []api.Span{span(0, api.MaxMinute)} }

// easy returns a path of the lowest grade that is never closed, without snow.
func easy(from, to, low, high int) api.Path {
	return api.Path{From: from, To: to, Grade: 1, Time: span(low, high), Opens: always()}
}

func spot(place, weight, search int) api.Spot {
	return api.Spot{Place: place, Weight: weight, Search: search}
}

// seen and unseen are clues: that a party was, or was not, at one of some places.
func seen(minute, places int) api.Clue {
	return api.Clue{Minute: minute, Places: places, Seen: true}
}

func unseen(minute, places int) api.Clue { return api.Clue{Minute: minute, Places: places} }

func pass(place, arrive, leave, path int) api.Pass {
	return api.Pass{Place: place, Arrive: arrive, Leave: leave, Path: path}
}

// exampleN is the net N of the chapter of paths.
func exampleN() api.Net {
	return api.Net{Places: 4, Paths: []api.Path{
		{From: 0, To: 1, Grade: 2, Time: span(100, 120), Opens: always()},
		{From: 1, To: 2, Grade: 3, Time: span(60, 90), Snow: span(4, 10), Opens: always()},
		{From: 2, To: 3, Grade: 2, Time: span(60, 60), Opens: []api.Span{span(400, 700)}},
		{From: 0, To: 3, Grade: 2, Time: span(300, 400), Opens: always()},
		{From: 3, To: 0, Grade: 2, Time: span(200, 240), Opens: always()},
	}}
}

// exampleP is the party P of the chapter of paths.
func exampleP() api.Party { return api.Party{Grade: 3, Pace: span(100, 100)} }

// exampleX, exampleY and exampleZ are the missed parties of the chapter.
func exampleX() api.Missed {
	return api.Missed{Party: exampleP(), Start: 300, Rest: 30, Now: 600, Clues: []api.Clue{seen(420, 2), unseen(500, 4)}}
}

func exampleY() api.Missed { return withClues(exampleX(), seen(560, 9)) }

func exampleZ() api.Missed { return withClues(exampleY(), seen(430, 1)) }

// exampleS are the spots S of the chapter.
func exampleS() []api.Spot { return []api.Spot{spot(3, 50, 60), spot(1, 30, 20), spot(2, 20, 40)} }

// walker is a party that needs just the time of each easy path.
func walker() api.Party { return api.Party{Grade: 1, Pace: span(100, 100)} }

// lost is a missed party that set out from the place 0 at the minute 0.
func lost(rest, now int, clues ...api.Clue) api.Missed {
	return api.Missed{Party: walker(), Rest: rest, Now: now, Clues: clues}
}

// net returns a net with some paths.
func net(places int, paths ...api.Path) api.Net { return api.Net{Places: places, Paths: paths} }

// chain is three places in a row, with a path of 10 to 20 minutes, and one of one
// minute.
func chain() api.Net { return net(3, easy(0, 1, 10, 20), easy(1, 2, 1, 1)) }

// star is places that are apart as told from the place 0, there and back.
func star(apart ...int) api.Net {
	n := api.Net{Places: len(apart) + 1}
	for i, minutes := range apart {
		n.Paths = append(n.Paths, easy(0, i+1, minutes, minutes), easy(i+1, 0, minutes, minutes))
	}
	return n
}

// withClues returns a missed party with more clues.
func withClues(x api.Missed, clues ...api.Clue) api.Missed {
	x.Clues = append(slices.Clone(x.Clues), clues...)
	return x
}

func withoutClue(x api.Missed, i int) api.Missed {
	x.Clues = slices.Delete(slices.Clone(x.Clues), i, i+1)
	return x
}

func copyNet(n api.Net) api.Net {
	n.Paths = slices.Clone(n.Paths)
	for i := range n.Paths {
		n.Paths[i].Opens = slices.Clone(n.Paths[i].Opens)
	}
	return n
}

// minutesOf is the time of a path by the formula of the chapter of paths, rounded up
// by hand.
func minutesOf(t, p, s, load int) int {
	product := t * p * (100 + 5*s + load)
	if product%10000 != 0 {
		return product/10000 + 1
	}
	return product / 10000
}

// timeOf is the span of the time of a path for a party.
func timeOf(path api.Path, p api.Party) api.Span {
	return span(minutesOf(path.Time.Low, p.Pace.Low, path.Snow.Low, p.Load), minutesOf(path.Time.High, p.Pace.High, path.Snow.High, p.Load))
}

// state is what a party does at a minute: it is at a place since its arrival (path is
// -1), or on a path since it left (place is -1).
type state struct{ place, path, since int }

// agrees is the definition for the state at the minute of a clue.
func agrees(c api.Clue, s state) bool {
	if s.place < 0 {
		return !c.Seen
	}
	return c.Seen == (c.Places>>s.place&1 == 1)
}

// agreesAt reports whether a state at a minute agrees with all clues.
func agreesAt(x api.Missed, s state, minute int) bool {
	return !slices.ContainsFunc(x.Clues, func(c api.Clue) bool { return c.Minute == minute && !agrees(c, s) })
}

// next calls visit for all that can follow a state at a minute.
func next(n api.Net, x api.Missed, s state, minute int, visit func(s state)) {
	visit(s)
	if s.path >= 0 {
		if path := n.Paths[s.path]; isIn(minute+1-s.since, timeOf(path, x.Party)) {
			visit(state{path.To, -1, minute + 1})
		}
		return
	}
	for i, path := range n.Paths {
		if path.From != s.place || path.Grade > x.Party.Grade || minute-s.since > x.Rest {
			continue
		}
		visit(state{-1, i, minute})
		if isIn(1, timeOf(path, x.Party)) {
			visit(state{path.To, -1, minute + 1})
		}
	}
}

func isIn(x int, s api.Span) bool { return s.Low <= x && x <= s.High }

// ended is a set of places and a set of paths.
type ended struct{ places, paths map[int]bool }

func (w ended) isNone() bool { return len(w.places)+len(w.paths) == 0 }

// whereOf goes through all states, minute by minute.
func whereOf(n api.Net, x api.Missed) ended {
	now := map[state]bool{}
	if first := (state{x.Place, -1, x.Start}); agreesAt(x, first, x.Start) {
		now[first] = true
	}
	for minute := x.Start; minute < x.Now; minute++ {
		later := map[state]bool{}
		for s := range now {
			next(n, x, s, minute, func(s state) {
				if agreesAt(x, s, minute+1) {
					later[s] = true
				}
			})
		}
		now = later
	}
	w := ended{map[int]bool{}, map[int]bool{}}
	for s := range now {
		w.add(s.place, s.path)
	}
	return w
}

func (w ended) add(place, path int) {
	if path >= 0 {
		w.paths[path] = true
	} else {
		w.places[place] = true
	}
}

// eachTrace calls visit for all traces, whether they agree with the clues or not. It
// must not keep them.
func eachTrace(n api.Net, x api.Missed, visit func(trace []api.Pass)) {
	var extend func(trace []api.Pass, place, arrive int)
	extend = func(trace []api.Pass, place, arrive int) {
		visit(append(trace, pass(place, arrive, x.Now, -1)))
		for leave := arrive; leave <= min(arrive+x.Rest, x.Now); leave++ {
			for i, path := range n.Paths {
				if path.From != place || path.Grade > x.Party.Grade {
					continue
				}
				longer := append(slices.Clone(trace), pass(place, arrive, leave, i))
				if leave < x.Now {
					visit(longer)
				}
				for end := leave + 1; end <= x.Now; end++ {
					if isIn(end-leave, timeOf(path, x.Party)) {
						extend(longer, path.To, end)
					}
				}
			}
		}
	}
	extend(nil, x.Place, x.Start)
}

// at returns what a party does at a minute of a trace.
func at(trace []api.Pass, minute int) state {
	for i, p := range trace {
		if p.Arrive <= minute && minute <= p.Leave {
			return state{p.Place, -1, p.Arrive}
		}
		if minute > p.Leave && (i == len(trace)-1 || minute < trace[i+1].Arrive) {
			return state{-1, p.Path, p.Leave}
		}
	}
	return state{-1, -1, -1}
}

// isPossible reports whether a trace agrees with all clues.
func isPossible(x api.Missed, trace []api.Pass) bool {
	return !slices.ContainsFunc(x.Clues, func(c api.Clue) bool { return !agrees(c, at(trace, c.Minute)) })
}

// canLeave reports whether a party can leave a place as a pass says.
func canLeave(n api.Net, x api.Missed, p api.Pass) bool {
	return p.Path >= 0 && p.Path < len(n.Paths) && n.Paths[p.Path].From == p.Place &&
		n.Paths[p.Path].Grade <= x.Party.Grade && p.Arrive <= p.Leave && p.Leave <= min(p.Arrive+x.Rest, x.Now)
}

// isTrace is the definition of a trace.
func isTrace(n api.Net, x api.Missed, trace []api.Pass) bool {
	if len(trace) == 0 || trace[0].Place != x.Place || trace[0].Arrive != x.Start {
		return false
	}
	for i, p := range trace[:len(trace)-1] {
		q := trace[i+1]
		if !canLeave(n, x, p) || q.Place != n.Paths[p.Path].To || q.Arrive > x.Now || !isIn(q.Arrive-p.Leave, timeOf(n.Paths[p.Path], x.Party)) {
			return false
		}
	}
	last := trace[len(trace)-1]
	if last.Path == -1 {
		return last.Leave == x.Now && last.Arrive <= x.Now
	}
	return canLeave(n, x, last) && last.Leave < x.Now
}

// tracesOf goes through all traces.
func tracesOf(n api.Net, x api.Missed) ended {
	w := ended{map[int]bool{}, map[int]bool{}}
	eachTrace(n, x, func(trace []api.Pass) {
		if isPossible(x, trace) {
			w.add(trace[len(trace)-1].Place, trace[len(trace)-1].Path)
		}
	})
	return w
}

// conflictOf removes one clue after the other, with another list of those that
// remain each time.
func conflictOf(n api.Net, x api.Missed) []int {
	var numbers []int
	for i := range x.Clues {
		numbers = append(numbers, i)
	}
	for i := range x.Clues {
		at := slices.Index(numbers, i)
		if fewer := withoutClue(x, at); whereOf(n, fewer).isNone() {
			x, numbers = fewer, slices.Delete(numbers, at, at+1)
		}
	}
	return numbers
}

// none stands for a way, or a cost, if there is none.
const none = -1

// wayOf goes through all routes that come to no place again.
func wayOf(n api.Net, p api.Party, from, to int) int {
	least := none
	var extend func(place, been, minutes int)
	extend = func(place, been, minutes int) {
		if place == to && (least == none || minutes < least) {
			least = minutes
		}
		for _, path := range n.Paths {
			if path.From == place && path.Grade <= p.Grade && been>>path.To&1 == 0 {
				extend(path.To, been|1<<path.To, minutes+timeOf(path, p).High)
			}
		}
	}
	extend(from, 1<<from, 0)
	return least
}

// waysOf returns the ways from each place to each place.
func waysOf(n api.Net, p api.Party) [][]int {
	ways := make([][]int, n.Places)
	for from := range ways {
		for to := range n.Places {
			ways[from] = append(ways[from], wayOf(n, p, from, to))
		}
	}
	return ways
}

// carriedOut is the cost of a plan, and the minute at which it is done; none if there
// is no route to some spot.
func carriedOut(ways [][]int, base int, spots []api.Spot, order []int) (cost, minute int) {
	place := base
	for _, i := range order {
		way := ways[place][spots[i].Place]
		if way == none {
			return none, none
		}
		minute += way + spots[i].Search
		cost += spots[i].Weight * minute
		place = spots[i].Place
	}
	return cost, minute
}

// eachOrder calls visit for all orders of just some spots, those with the lower spot
// at the first position at which they differ first. It must not keep them.
func eachOrder(spots []int, visit func(order []int)) {
	var extend func(order, rest []int)
	extend = func(order, rest []int) {
		if len(rest) == 0 {
			visit(order)
		}
		for i, spot := range rest {
			extend(append(order, spot), slices.Delete(slices.Clone(rest), i, i+1))
		}
	}
	extend(make([]int, 0, len(spots)), spots)
}

// elements returns the elements of a set.
func elements(set int) []int {
	var list []int
	for i := range 30 {
		if set>>i&1 == 1 {
			list = append(list, i)
		}
	}
	return list
}

// found is the result of a search for plans.
type found struct {
	order []int
	cost  int
	equal int // how many orders have the same least cost
}

// planOf goes through all orders of just some spots.
func planOf(ways [][]int, base int, spots []api.Spot, some []int) found {
	best := found{cost: none}
	eachOrder(some, func(order []int) {
		cost, _ := carriedOut(ways, base, spots, order)
		if cost == none || best.cost != none && cost > best.cost {
			return
		}
		if cost != best.cost {
			best = found{order: slices.Clone(order), cost: cost}
		}
		best.equal++
	})
	return best
}

// teamsOf goes through all ways to share the spots out, and for each team through all
// orders of its spots. It returns the least cost.
func teamsOf(ways [][]int, bases []int, spots []api.Spot) int {
	costs := make([][]int, len(bases))
	for team, base := range bases {
		for set := range 1 << len(spots) {
			costs[team] = append(costs[team], planOf(ways, base, spots, elements(set)).cost)
		}
	}
	least := none
	sets := make([]int, len(bases))
	var give func(spot int)
	give = func(spot int) {
		if spot < len(spots) {
			for team := range sets {
				sets[team] += 1 << spot
				give(spot + 1)
				sets[team] -= 1 << spot
			}
			return
		}
		sum := 0
		for team, set := range sets {
			if costs[team][set] == none {
				return
			}
			sum += costs[team][set]
		}
		if least == none || sum < least {
			least = sum
		}
	}
	give(0)
	return least
}

// mostOf goes through all orders of some of the spots.
func mostOf(ways [][]int, base int, spots []api.Spot, minutes int) int {
	most := 0
	for set := range 1 << len(spots) {
		sum := weightOf(spots, elements(set))
		eachOrder(elements(set), func(order []int) {
			if _, minute := carriedOut(ways, base, spots, order); minute != none && minute <= minutes {
				most = max(most, sum)
			}
		})
	}
	return most
}

func weightOf(spots []api.Spot, some []int) int {
	sum := 0
	for _, i := range some {
		sum += spots[i].Weight
	}
	return sum
}

// where returns what Where says; no places and paths if no trace is possible.
func where(t *testing.T, n api.Net, x api.Missed) (places, paths []int) {
	t.Helper()
	places, paths, e := missing.Where(n, x)
	if isNone := len(places)+len(paths) == 0; e != api.OK && e != api.ErrNone || isNone != (e == api.ErrNone) {
		t.Fatalf("Where of %+v: %v, %v, %d", x, places, paths, e)
	}
	return places, paths
}

// checkWhere compares Where with what it should be, and all traces with it.
func checkWhere(t *testing.T, n api.Net, x api.Missed, want ended) {
	t.Helper()
	places, paths := where(t, n, x)
	checkSet(t, "places", places, want.places, n.Places)
	checkSet(t, "paths", paths, want.paths, len(n.Paths))
	for place := range n.Places {
		checkTrace(t, n, x, place, -1, want.places[place])
	}
	for path := range n.Paths {
		checkTrace(t, n, x, -1, path, want.paths[path])
	}
}

func checkSet(t *testing.T, what string, list []int, want map[int]bool, size int) {
	t.Helper()
	var wanted []int
	for i := range size {
		if want[i] {
			wanted = append(wanted, i)
		}
	}
	if !slices.Equal(list, wanted) {
		t.Errorf("Where has the %s %v, want %v", what, list, wanted)
	}
}

// checkTrace checks that there is a trace to a place or on a path, or none.
func checkTrace(t *testing.T, n api.Net, x api.Missed, place, path int, is bool) {
	t.Helper()
	trace, e := missing.Trace(n, x, place, path)
	if !is {
		if e != api.ErrNone || len(trace) > 0 {
			t.Errorf("Trace to %d, %d = %v, %d, want none", place, path, trace, e)
		}
		return
	}
	if e != api.OK || !isTrace(n, x, trace) || !isPossible(x, trace) {
		t.Errorf("Trace to %d, %d = %v, %d, which is no possible trace", place, path, trace, e)
		return
	}
	if last := trace[len(trace)-1]; last.Path != path || path < 0 && last.Place != place {
		t.Errorf("Trace to %d, %d = %v", place, path, trace)
	}
}

// checkTeams checks that plans of teams have just the cost that is told.
func checkTeams(t *testing.T, ways [][]int, bases []int, spots []api.Spot, orders [][]int, cost int) {
	t.Helper()
	sum := 0
	var all []int
	for team, order := range orders {
		all = append(all, order...)
		one, _ := carriedOut(ways, bases[team], spots, order)
		if one == none {
			t.Errorf("Teams = %v: no route for the team %d", orders, team)
		}
		sum += one
	}
	slices.Sort(all)
	if len(orders) != len(bases) || !slices.Equal(all, elements(1<<len(spots)-1)) || sum != cost {
		t.Errorf("Teams = %v, %d; the cost is %d", orders, cost, sum)
	}
}

func isTrue(b bool) int {
	if b {
		return 1
	}
	return 0
}

func randomSpan(r *rand.Rand, low, high int) api.Span {
	a, b := low+r.Intn(high-low+1), low+r.Intn(high-low+1)
	return span(min(a, b), max(a, b))
}

// size tells how great random nets and missed parties are.
type size struct{ places, paths, time, rest, minutes, clues int }

// tiny is the size of cases all of whose traces can be gone through.
func tiny() size { return size{places: 4, paths: 6, time: 3, rest: 2, minutes: 8, clues: 4} }

// small is the size of cases in which all states can be gone through.
func small() size { return size{places: 6, paths: 10, time: 9, rest: 8, minutes: 40, clues: 5} }

func large() size {
	return size{places: api.MaxPlaces, paths: api.MaxPaths, time: 60, rest: 30, minutes: 200, clues: api.MaxClues}
}

func (z size) path(r *rand.Rand, places int) api.Path {
	from := r.Intn(places)
	path := api.Path{From: from, To: (from + 1 + r.Intn(places-1)) % places, Grade: 1 + r.Intn(3), Time: randomSpan(r, 1, z.time)}
	if r.Intn(3) == 0 {
		path.Time.High = path.Time.Low
	}
	if r.Intn(4) == 0 {
		path.Snow = randomSpan(r, 0, 5)
	}
	for range r.Intn(3) {
		path.Opens = append(path.Opens, randomSpan(r, 0, 2*z.minutes))
	}
	return path
}

func (z size) net(r *rand.Rand) api.Net {
	n := api.Net{Places: 2 + r.Intn(z.places-1)}
	count := z.paths/2 + r.Intn(z.paths-z.paths/2+1)
	switch r.Intn(12) {
	case 0:
		n.Places, count = 1, 0
	case 1:
		count = r.Intn(3)
	}
	for range count {
		n.Paths = append(n.Paths, z.path(r, n.Places))
	}
	return n
}

func randomParty(r *rand.Rand) api.Party {
	return api.Party{Grade: 1 + r.Intn(3) | r.Intn(3), Pace: randomSpan(r, 50, 150), Load: []int{0, 0, r.Intn(api.MaxLoad + 1)}[r.Intn(3)]}
}

// missed returns a missed party without clues.
func (z size) missed(r *rand.Rand, n api.Net) api.Missed {
	x := api.Missed{Party: randomParty(r), Place: r.Intn(n.Places), Start: r.Intn(z.minutes), Rest: r.Intn(z.rest + 1)}
	x.Now = x.Start + r.Intn(z.minutes+1)
	if r.Intn(2) == 0 {
		x.Now = x.Start + z.minutes - r.Intn(z.minutes/4)
	}
	return x
}

// pickTrace returns some trace.
func pickTrace(r *rand.Rand, n api.Net, x api.Missed) []api.Pass {
	var trace []api.Pass
	place, arrive := x.Place, x.Start
	for {
		p := pass(place, arrive, arrive+r.Intn(x.Rest+1)*r.Intn(2), -1)
		var walkable []int
		for i, path := range n.Paths {
			if path.From == place && path.Grade <= x.Party.Grade {
				walkable = append(walkable, i)
			}
		}
		if len(walkable) == 0 || p.Leave >= x.Now || r.Intn(8) == 0 {
			p.Leave = x.Now
			return append(trace, p)
		}
		p.Path = walkable[r.Intn(len(walkable))]
		trace = append(trace, p)
		time := timeOf(n.Paths[p.Path], x.Party)
		arrive = p.Leave + time.Low + r.Intn(time.High-time.Low+1)
		if arrive > x.Now || r.Intn(8) == 0 {
			return trace
		}
		place = n.Paths[p.Path].To
	}
}

// pickClue returns a clue with which a trace agrees, often at a minute at which the
// party arrives or leaves.
func pickClue(r *rand.Rand, n api.Net, x api.Missed, trace []api.Pass) api.Clue {
	p := trace[r.Intn(len(trace))]
	c := api.Clue{Minute: []int{p.Arrive, p.Leave, x.Now, x.Start + r.Intn(x.Now-x.Start+1)}[r.Intn(4)]}
	c.Places = 1 + r.Intn(1<<n.Places-1)
	if s := at(trace, c.Minute); r.Intn(2) == 0 && s.place >= 0 {
		c.Places = 1 << s.place
	}
	c.Seen = !agrees(c, at(trace, c.Minute))
	return c
}

// eachHunt calls visit for random nets and missed parties. Their clues tell of some
// trace, but for some that are wrong.
func eachHunt(t *testing.T, z size, seed int64, cases int, visit func(r *rand.Rand, n api.Net, x api.Missed)) {
	t.Helper()
	r := rand.New(rand.NewSource(seed))
	for i := range cases {
		n := z.net(r)
		x := z.missed(r, n)
		trace := pickTrace(r, n, x)
		for range r.Intn(z.clues + 1) {
			c := pickClue(r, n, x, trace)
			if r.Intn(6) == 0 {
				c.Seen = !c.Seen
			}
			x.Clues = append(x.Clues, c)
		}
		visit(r, n, x)
		if t.Failed() {
			t.Fatalf("case %d: net %+v, missed %+v", i, n, x)
		}
	}
}

// randomSpots returns spots at places of a net, some of them at the same one.
func randomSpots(r *rand.Rand, n api.Net, most int) []api.Spot {
	var spots []api.Spot
	for range 1 + r.Intn(most) {
		s := spot(r.Intn(n.Places), r.Intn(5), r.Intn(5))
		switch r.Intn(6) {
		case 0:
			s.Weight, s.Search = r.Intn(api.MaxWeight+1), r.Intn(api.MaxSearch+1)
		case 1:
			s.Weight = 0
		}
		spots = append(spots, s)
	}
	return spots
}

// eachSearch calls visit for random nets, rescue parties, bases and spots. The net
// often has both directions of a path, so that there are plans.
func eachSearch(t *testing.T, seed int64, cases, most int, visit func(r *rand.Rand, n api.Net, p api.Party, bases []int, spots []api.Spot)) {
	t.Helper()
	r := rand.New(rand.NewSource(seed))
	for i := range cases {
		n := small().net(r)
		for _, path := range n.Paths {
			if r.Intn(3) > 0 {
				path.From, path.To = path.To, path.From
				n.Paths = append(n.Paths, path)
			}
		}
		p := randomParty(r)
		if r.Intn(3) > 0 {
			p.Grade = api.MaxGrade
		}
		var bases []int
		for range 1 + r.Intn(api.MaxTeams) {
			bases = append(bases, r.Intn(n.Places))
		}
		spots := randomSpots(r, n, most)
		visit(r, n, p, bases, spots)
		if t.Failed() {
			t.Fatalf("case %d: net %+v, party %+v, bases %v, spots %v", i, n, p, bases, spots)
		}
	}
}
