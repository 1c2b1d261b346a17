package weather_test

import (
	"math/rand"
	"slices"
	"testing"

	"bivouac/api"
	"bivouac/paths"
	"bivouac/tours"
	"bivouac/weather"
)

// TestP5_2_all: in any forecast a scenario is possible if it allows all
// observations.
func TestP5_2_all(t *testing.T) {
	r := rand.New(rand.NewSource(2))
	counts := map[int]int{}
	for _, z := range []size{small(), large()} {
		for range 500 {
			q := z.question(r)
			var want []int
			for i, s := range q.f.Scenarios {
				if isPossible(s, q.seen) {
					want = append(want, i)
				}
			}
			l, e := weather.Possible(q.f, q.seen)
			if !slices.Equal(l, want) || (e == api.ErrNone) != (len(want) == 0) || e != api.OK && e != api.ErrNone {
				t.Errorf("Possible of %+v = %v, %d, want %v", q, l, e, want)
			}
			counts[len(want)]++
		}
	}
	if min(counts[0], counts[1], counts[2], counts[3]) < 20 {
		t.Errorf("just so many cases with each number of scenarios: %v", counts)
	}
}

// TestP5_3_all: in forecasts with few weathers Range is the least and the
// greatest value of all of them.
func TestP5_3_all(t *testing.T) {
	eachQuestion(t, small(), 3, 600, func(r *rand.Rand, q question) {
		all := weathers(q.f, q.seen)
		for hour := range all[0] {
			want := exactly(all[0][hour])
			for _, sky := range all {
				want.Wind = span(min(want.Wind.Low, sky[hour].Wind), max(want.Wind.High, sky[hour].Wind))
				want.Rain = span(min(want.Rain.Low, sky[hour].Rain), max(want.Rain.High, sky[hour].Rain))
				want.Temp = span(min(want.Temp.Low, sky[hour].Temp), max(want.Temp.High, sky[hour].Temp))
			}
			if h, e := weather.Range(q.f, q.seen, hour); h != want || e != api.OK {
				t.Errorf("Range of %d = %v, %d, want %v", hour, h, e, want)
			}
		}
	})
}

func exactly(s api.Sky) api.Hour {
	return api.Hour{Wind: span(s.Wind, s.Wind), Rain: span(s.Rain, s.Rain), Temp: span(s.Temp, s.Temp)}
}

// TestP5_4_all: in forecasts with few weathers Keeps is what the definition says
// of all of them.
func TestP5_4_all(t *testing.T) {
	surely, none := 0, 0
	eachQuestion(t, small(), 4, 600, func(r *rand.Rand, q question) {
		all := weathers(q.f, q.seen)
		kept := func(sky []api.Sky, hour int) bool { return keeps(sky[hour], q.l) }
		wantSure, wantMay := spansOf(inAll(all, kept)), spansOf(inSome(all, kept))
		sure, may, e := weather.Keeps(q.f, q.seen, q.l)
		if !slices.Equal(sure, wantSure) || !slices.Equal(may, wantMay) || e != api.OK {
			t.Errorf("Keeps = %v, %v, %d, want %v, %v", sure, may, e, wantSure, wantMay)
		}
		surely += len(sure)
		if len(may) == 0 {
			none++
		}
	})
	if min(surely, none) < 50 {
		t.Errorf("just %d sure spans, and %d cases without any hour", surely, none)
	}
}

// TestP5_5_all: in forecasts with few weathers Window is the first hour of the
// windows of all of them, and the last one of their first windows.
func TestP5_5_all(t *testing.T) {
	counts := map[bool]int{}
	eachQuestion(t, small(), 5, 800, func(r *rand.Rand, q question) {
		wantFirst, wantLast := -1, 0
		for _, sky := range weathers(q.f, q.seen) {
			hour := firstWindow(sky, q.l, q.length)
			if hour >= 0 && (wantFirst < 0 || hour < wantFirst) {
				wantFirst = hour
			}
			if hour < 0 || wantLast < 0 {
				wantLast = -1
			} else {
				wantLast = max(wantLast, hour)
			}
		}
		first, last, e := weather.Window(q.f, q.seen, q.l, q.length)
		if first != wantFirst || last != wantLast || e != api.OK {
			t.Errorf("Window = %d, %d, %d, want %d, %d", first, last, e, wantFirst, wantLast)
		}
		counts[first < last]++
		if first >= 0 {
			counts[last < 0]++
		}
	})
	if min(counts[true], counts[false]) < 50 {
		t.Errorf("just so many cases of each kind: %v", counts)
	}
}

// TestP5_6_all: in forecasts with few weathers Gap is the greatest one of all of
// them.
func TestP5_6_all(t *testing.T) {
	gaps := map[int]int{}
	eachQuestion(t, small(), 6, 800, func(r *rand.Rand, q question) {
		want := 0
		for _, sky := range weathers(q.f, q.seen) {
			want = max(want, gapOf(sky, q.l, q.length))
		}
		if gap, e := weather.Gap(q.f, q.seen, q.l, q.length); gap != want || e != api.OK {
			t.Errorf("Gap = %d, %d, want %d", gap, e, want)
		}
		gaps[want]++
	})
	if min(gaps[0], gaps[1], gaps[2], gaps[3], gaps[4]) < 20 {
		t.Errorf("just so many cases with each gap: %v", gaps)
	}
}

// TestP5_7_all: in forecasts with few weathers Open is what the definition says
// of all of them.
func TestP5_7_all(t *testing.T) {
	surely, apart := 0, 0
	eachQuestion(t, small(), 7, 600, func(r *rand.Rand, q question) {
		all := weathers(q.f, q.seen)
		for path := range q.n.Paths {
			open := func(sky []api.Sky, hour int) bool { return isOpen(sky, q.rules, path, hour) }
			wantSure, wantMay := spansOf(inAll(all, open)), spansOf(inSome(all, open))
			sure, may, e := weather.Open(q.n, q.rules, q.f, q.seen, path)
			if !slices.Equal(sure, wantSure) || !slices.Equal(may, wantMay) || e != api.OK {
				t.Errorf("Open of %d = %v, %v, %d, want %v, %v", path, sure, may, e, wantSure, wantMay)
			}
			hours := len(all[0])
			if len(sure) > 0 && sure[0] != span(0, hours-1) {
				surely++
			}
			if !slices.Equal(sure, may) {
				apart++
			}
		}
	})
	if min(surely, apart) < 50 {
		t.Errorf("just %d paths that surely open, but not always, and %d that may", surely, apart)
	}
}

// safeOpens returns, minute by minute, what the definition says of a path.
func safeOpens(q question, path int, sure []api.Span) []api.Span {
	opens := q.n.Paths[path].Opens
	if !slices.ContainsFunc(q.rules, func(rule api.Rule) bool { return rule.Path == path }) {
		return opens
	}
	var list [api.MaxMinute + 1]bool
	for minute := range list {
		list[minute] = isIn(minute, opens) && isIn(minute/60, sure)
	}
	all := spansOf(list[:])
	return all[:min(len(all), api.MaxOpens)]
}

// TestP5_8_all: in any forecast Safe is what the definition says, with what Open
// returns.
func TestP5_8_all(t *testing.T) {
	partly, many := 0, 0
	for _, z := range []size{small(), large()} {
		eachQuestion(t, z, 8, 300, func(r *rand.Rand, q question) {
			want := copyNet(q.n)
			for i := range want.Paths {
				sure, _, _ := weather.Open(q.n, q.rules, q.f, q.seen, i)
				want.Paths[i].Opens = safeOpens(q, i, sure)
				if len(want.Paths[i].Opens) == api.MaxOpens {
					many++
				}
				if len(sure) > 0 && !slices.Equal(want.Paths[i].Opens, q.n.Paths[i].Opens) && len(want.Paths[i].Opens) > 0 {
					partly++
				}
			}
			if n, e := weather.Safe(q.n, q.rules, q.f, q.seen); !sameNet(n, want) || e != api.OK {
				t.Errorf("Safe = %v, %d, want %v", n, e, want)
			}
		})
	}
	if partly < 50 || many < 10 {
		t.Errorf("just %d paths that open in part, and %d in as many spans as may be", partly, many)
	}
}

// TestP5_9: each hour of any possible weather is within Range; it keeps the
// limits if Keeps says surely, and only if Keeps says that it may.
func TestP5_9(t *testing.T) {
	surely, never := 0, 0
	eachQuestion(t, large(), 9, 200, func(r *rand.Rand, q question) {
		sure, may, e := weather.Keeps(q.f, q.seen, q.l)
		if e != api.OK {
			t.Fatalf("Keeps: %d", e)
		}
		for range 20 {
			for hour, sky := range pickWeather(r, q.f, q.seen) {
				if h, e := weather.Range(q.f, q.seen, hour); !canBe(h, sky) || e != api.OK {
					t.Errorf("Range of %d = %v, %d, but it can be %v", hour, h, e, sky)
				}
				kept := keeps(sky, q.l)
				if isIn(hour, sure) && !kept || kept && !isIn(hour, may) {
					t.Errorf("Keeps = %v, %v, but the hour %d can be %v", sure, may, hour, sky)
				}
				if isIn(hour, sure) {
					surely++
				}
				if !isIn(hour, may) {
					never++
				}
			}
		}
	})
	if min(surely, never) < 1000 {
		t.Errorf("just %d sure hours, and %d that keep no limits", surely, never)
	}
}

// TestP5_10: in any possible weather a window begins by the last hour of Window,
// none begins before the first one, and more hours than Gap have one.
func TestP5_10(t *testing.T) {
	come, may := 0, 0
	eachQuestion(t, large(), 10, 300, func(r *rand.Rand, q question) {
		first, last, e := weather.Window(q.f, q.seen, q.l, q.length)
		gap, e2 := weather.Gap(q.f, q.seen, q.l, q.length)
		if e != api.OK || e2 != api.OK {
			t.Fatalf("Window: %d, Gap: %d", e, e2)
		}
		for range 20 {
			sky := pickWeather(r, q.f, q.seen)
			hour := firstWindow(sky, q.l, q.length)
			if last >= 0 && (hour < 0 || hour > last) || hour >= 0 && (first < 0 || hour < first) {
				t.Errorf("Window = %d, %d, but it begins at %d in %v", first, last, hour, sky)
			}
			for low := 0; low+gap < len(sky); low++ {
				if isWithout(sky[low:low+gap+1], q.l, q.length) {
					t.Errorf("Gap = %d, but there is no window from %d on in %v", gap, low, sky)
				}
			}
		}
		if last >= 0 {
			come++
		} else if first >= 0 {
			may++
		}
	})
	if min(come, may) < 30 {
		t.Errorf("just %d windows that surely come, and %d that may", come, may)
	}
}

// TestP5_11: in any possible weather all rules of a path are kept when a path of
// Safe opens, and it is open in the net.
func TestP5_11(t *testing.T) {
	opened := 0
	eachQuestion(t, large(), 11, 300, func(r *rand.Rand, q question) {
		safe, e := weather.Safe(q.n, q.rules, q.f, q.seen)
		if e != api.OK || paths.Check(safe) != api.OK {
			t.Fatalf("Safe = %v, %d", safe, e)
		}
		for i, path := range safe.Paths {
			if !isWithin(path.Opens, q.n.Paths[i].Opens) {
				t.Errorf("Safe opens %d at %v", i, path.Opens)
			}
			if !slices.ContainsFunc(q.rules, func(rule api.Rule) bool { return rule.Path == i }) {
				continue
			}
			for range 5 {
				sky := pickWeather(r, q.f, q.seen)
				for minute := range api.MaxMinute + 1 {
					if !isIn(minute, path.Opens) {
						continue
					}
					opened++
					if minute/60 >= len(sky) || !isOpen(sky, q.rules, i, minute/60) {
						t.Errorf("Safe opens %d at %d, in %v", i, minute, sky)
					}
				}
			}
		}
	})
	if opened < 10000 {
		t.Errorf("just %d minutes at which paths with rules open", opened)
	}
}

// oneMore returns a question with one more observation, if there is an hour for
// it: mostly of a weather that is possible.
func oneMore(r *rand.Rand, z size, q question) (question, bool) {
	sky := pickWeather(r, q.f, q.seen)
	hour := r.Intn(len(sky))
	if len(q.seen) == api.MaxSights || slices.ContainsFunc(q.seen, func(x api.Sight) bool { return x.Hour == hour }) {
		return q, false
	}
	x := api.Sight{Hour: hour, Sky: sky[hour]}
	if r.Intn(6) == 0 {
		x.Sky = pickSky(r, z.hour(r))
	}
	q.seen = with(q.seen, x)
	return q, true
}

// sureHours returns the sure hours of Keeps and of Open for each path.
func sureHours(t *testing.T, q question) [][]api.Span {
	t.Helper()
	sure, _, e := weather.Keeps(q.f, q.seen, q.l)
	all := [][]api.Span{sure}
	for path := range q.n.Paths {
		sure, _, e2 := weather.Open(q.n, q.rules, q.f, q.seen, path)
		all = append(all, sure)
		e = max(e, e2)
	}
	if e != api.OK {
		t.Fatalf("Keeps or Open: %d", e)
	}
	return all
}

// checkKept tells that no sure hour of the first question is lost in the other.
func checkKept(t *testing.T, q, other question) (gained bool) {
	t.Helper()
	before, after := sureHours(t, q), sureHours(t, other)
	for i := range before {
		if !isWithin(before[i], after[i]) {
			t.Errorf("the sure hours are %v, and then %v, with %+v", before, after, other)
		}
		gained = gained || !slices.Equal(before[i], after[i])
	}
	return gained
}

// TestP5_12: one more observation makes no scenario possible, loses no sure
// hour, and makes no gap greater. Wider limits and a shorter After lose no hour.
func TestP5_12(t *testing.T) {
	gained, lost, shorter := 0, 0, 0
	for _, z := range []size{small(), large()} {
		eachQuestion(t, z, 12, 400, func(r *rand.Rand, q question) {
			other, ok := oneMore(r, z, q)
			before, _ := weather.Possible(q.f, q.seen)
			after, e := weather.Possible(other.f, other.seen)
			if slices.ContainsFunc(after, func(x int) bool { return !slices.Contains(before, x) }) {
				t.Errorf("Possible = %v, and %v with %v", before, after, other.seen)
			}
			lost += len(before) - len(after)
			if ok && e == api.OK {
				if checkKept(t, q, other) {
					gained++
				}
				gap, _ := weather.Gap(q.f, q.seen, q.l, q.length)
				less, _ := weather.Gap(other.f, other.seen, q.l, q.length)
				if less > gap {
					t.Errorf("Gap = %d, and %d with %v", gap, less, other.seen)
				}
				shorter += gap - less
			}
		})
	}
	if min(gained, lost, shorter) < 30 {
		t.Errorf("just %d cases with more hours, %d scenarios lost, and %d hours of gaps", gained, lost, shorter)
	}
}

// widened returns limits that accept as much or more.
func widened(r *rand.Rand, l api.Limits) api.Limits {
	w := widest()
	return api.Limits{
		Wind: pick(r, span(l.Wind, w.Wind)),
		Rain: pick(r, span(l.Rain, w.Rain)),
		Temp: span(pick(r, span(w.Temp.Low, l.Temp.Low)), pick(r, span(l.Temp.High, w.Temp.High))),
	}
}

// TestP5_12_wider: with wider limits, or a shorter After, no sure hour is lost.
func TestP5_12_wider(t *testing.T) {
	gained := [2]int{}
	for _, z := range []size{small(), large()} {
		eachQuestion(t, z, 120, 300, func(r *rand.Rand, q question) {
			wider, shorter := q, q
			wider.l, wider.rules, shorter.rules = widened(r, q.l), slices.Clone(q.rules), slices.Clone(q.rules)
			for i, rule := range q.rules {
				wider.rules[i].Limits = widened(r, rule.Limits)
				shorter.rules[i].After = r.Intn(rule.After + 1)
			}
			for i, other := range []question{wider, shorter} {
				if checkKept(t, q, other) {
					gained[i]++
				}
			}
		})
	}
	if min(gained[0], gained[1]) < 30 {
		t.Errorf("just so many cases with more hours: %v", gained)
	}
}

// TestP5_13: over the safe paths no party surely arrives sooner.
func TestP5_13(t *testing.T) {
	same, later := 0, 0
	eachQuestion(t, large(), 13, 300, func(r *rand.Rand, q question) {
		safe, e := weather.Safe(q.n, q.rules, q.f, q.seen)
		p := api.Party{Grade: 1, Pace: span(100, 100+r.Intn(50)), Load: r.Intn(20)}
		from, start := r.Intn(q.n.Places), r.Intn(600)
		before, _, e2 := paths.Arrive(q.n, p, from, start)
		after, _, e3 := paths.Arrive(safe, p, from, start)
		if e != api.OK || e2 != api.OK || e3 != api.OK {
			t.Fatalf("Safe: %d, Arrive: %d, %d", e, e2, e3)
		}
		for place := range before {
			switch {
			case after[place] >= 0 && (before[place] < 0 || after[place] < before[place]):
				t.Errorf("Arrive = %v, and %v over the safe paths %v", before, after, safe)
			case after[place] == before[place]:
				same++
			default:
				later++
			}
		}
	})
	if min(same, later) < 50 {
		t.Errorf("just %d arrivals that are the same, and %d that are not", same, later)
	}
}

// TestP0_8_enters: a party that walks over the safe paths enters each of them
// while all its rules are kept, in any possible weather.
func TestP0_8_enters(t *testing.T) {
	entered := 0
	eachQuestion(t, large(), 108, 400, func(r *rand.Rand, q question) {
		safe, _ := weather.Safe(q.n, q.rules, q.f, q.seen)
		p := api.Party{Grade: 1, Pace: span(100, 120)}
		from, start := r.Intn(q.n.Places), r.Intn(300)
		route, _, e := paths.Route(safe, p, from, start, r.Intn(q.n.Places))
		if e != api.OK {
			return
		}
		minute := start
		for _, i := range route {
			for !isIn(minute, safe.Paths[i].Opens) {
				minute++
			}
			for range 5 {
				sky := pickWeather(r, q.f, q.seen)
				hasRule := slices.ContainsFunc(q.rules, func(rule api.Rule) bool { return rule.Path == i })
				if hasRule && (minute/60 >= len(sky) || !isOpen(sky, q.rules, i, minute/60)) {
					t.Errorf("the path %d is entered at %d, in %v", i, minute, sky)
				}
				if hasRule {
					entered++
				}
			}
			walk, _ := paths.Walk(safe, p, i)
			minute += pick(r, walk)
		}
	})
	if entered < 100 {
		t.Errorf("just %d entered paths with rules", entered)
	}
}

// TestP0_8_safe: an itinerary that is sound with the safe paths alone is sound
// with all paths.
func TestP0_8_safe(t *testing.T) {
	sound, lost := 0, 0
	eachQuestion(t, large(), 109, 400, func(r *rand.Rand, q question) {
		tour := api.Tour{
			Net: q.n, Party: api.Party{Grade: 1, Pace: span(100, 100)},
			Chain:  api.Chain{Huts: []api.Hut{{Beds: 9}, {Beds: 9}}, Nights: 3},
			Places: []int{0, 1}, People: 1,
			Start: r.Intn(600), Dusk: 1200, Late: 1300,
			From: r.Intn(q.n.Places), To: r.Intn(q.n.Places), Id: -1,
		}
		safe := tour
		safe.Net, _ = weather.Safe(q.n, q.rules, q.f, q.seen)
		for range 5 {
			var huts []int
			for range r.Intn(3) {
				huts = append(huts, r.Intn(2))
			}
			day, e := tours.Sound(safe, huts)
			all, e2 := tours.Sound(tour, huts)
			if e != api.OK || e2 != api.OK || day == -1 && all != -1 {
				t.Errorf("Sound of %v = %d, %d with the safe paths, and %d, %d", huts, day, e, all, e2)
			}
			if day == -1 {
				sound++
			} else if all == -1 {
				lost++
			}
		}
	})
	if min(sound, lost) < 30 {
		t.Errorf("just %d sound itineraries, and %d that are not with the safe paths", sound, lost)
	}
}
