package ropes_test

import (
	"math/rand"
	"slices"
	"testing"

	"bivouac/api"
	"bivouac/paths"
	"bivouac/ropes"
)

// TestP9_1_all compares Damage with all heights and all lengths out.
func TestP9_1_all(t *testing.T) {
	eachRope(t, 1, 400, func(r *rand.Rand, m api.Model, x api.Rope) {
		for day := x.Made; day <= min(lastDay(x)+2, api.MaxDay); day++ {
			if s, e := ropes.Damage(m, x, day); e != api.OK || s != damageBy(m, x, day) {
				t.Errorf("Damage on the day %d = %v, %d, want %v", day, s, e, damageBy(m, x, day))
			}
		}
	})
}

// TestP9_2_all compares Fit with its definition on all days that matter.
func TestP9_2_all(t *testing.T) {
	eachRope(t, 2, 400, func(r *rand.Rand, m api.Model, x api.Rope) {
		for day := x.Made; day <= min(max(lastDay(x), x.Made+m.Shelf, x.First+m.Use)+2, api.MaxDay); day++ {
			damage := damageBy(m, x, day)
			sure, may, e := ropes.Fit(m, x, day)
			if e != api.OK || sure != isFit(m, x, day, damage.High) || may != isFit(m, x, day, damage.Low) {
				t.Errorf("Fit on the day %d = %t, %t, %d", day, sure, may, e)
			}
		}
	})
}

// TestP9_13: up to Until, and on no later day, a rope surely is fit; and one more fall
// makes no rope fit.
func TestP9_13(t *testing.T) {
	eachRope(t, 13, 400, func(r *rand.Rand, m api.Model, x api.Rope) {
		until, e := ropes.Until(m, x)
		end := min(max(lastDay(x), x.Made+m.Shelf, x.First+m.Use)+2, api.MaxDay)
		for day := lastDay(x); day <= end; day++ {
			if e != api.OK || surely(t, m, x, day) != (day <= until) {
				t.Errorf("Until = %d, %d, but the day %d is different", until, e, day)
			}
		}
		if end < api.MaxDay && surely(t, m, x, api.MaxDay) {
			t.Errorf("Until = %d, but it surely is fit on MaxDay", until)
		}
		if first := surely(t, m, x, lastDay(x)); first != (until >= 0) || !first && until != -1 {
			t.Errorf("Until = %d, but on the last of the days: %t", until, first)
		}
		if x.First == -1 {
			return
		}
		more := withFall(x, randomFall(r, between(r, x.First, min(lastDay(x)+3, api.MaxDay))))
		for day := x.Made; day <= end; day++ {
			if surely(t, m, more, day) && !surely(t, m, x, day) {
				t.Errorf("on the day %d it surely is fit only with one more fall: %+v", day, more)
			}
		}
	})
}

// TestP9_12_falls: whatever the heights and lengths out truly are, a rope that surely
// is fit bears its true damage and is not too old, and one that may not be fit does not
// or is.
func TestP9_12_falls(t *testing.T) {
	eachRope(t, 12, 400, func(r *rand.Rand, m api.Model, x api.Rope) {
		for range 20 {
			day := between(r, x.Made, min(lastDay(x)+40, api.MaxDay))
			damage := 0
			for _, f := range x.Falls {
				if f.Day <= day {
					damage += damageOf(m, factorOf(between(r, f.Height.Low, f.Height.High), between(r, f.Out.Low, f.Out.High)))
				}
			}
			sure, may, e := ropes.Fit(m, x, day)
			truly := damage <= m.Bears && isNotTooOld(m, x, day)
			if e != api.OK || sure && !truly || !may && truly {
				t.Errorf("Fit on the day %d = %t, %t, %d, with the true damage %d", day, sure, may, e, damage)
			}
			if s, e := ropes.Damage(m, x, day); e != api.OK || damage < s.Low || damage > s.High {
				t.Errorf("Damage on the day %d = %v, %d, with the true damage %d", day, s, e, damage)
			}
		}
	})
}

// TestP9_12_teams: each rope of Teams surely is fit.
func TestP9_12_teams(t *testing.T) {
	eachOuting(t, 112, 1000, func(r *rand.Rand, o api.Outing) {
		_, tied, e := ropes.Teams(o)
		for _, rope := range tied {
			if e == api.OK && rope >= 0 && !surely(t, o.Model, o.Ropes[rope], o.Day) {
				t.Errorf("the rope %d is not surely fit", rope)
			}
		}
	})
}

// TestP9_4_all compares Holds with the points that break one after the other.
func TestP9_4_all(t *testing.T) {
	eachAnchor(t, 4, 2000, func(r *rand.Rand, points []api.Span, load int) {
		sure, may, e := ropes.Holds(points, load)
		if e != api.OK || sure != stands(lows(points), load) || may != stands(highs(points), load) {
			t.Errorf("Holds = %t, %t, %d", sure, may, e)
		}
	})
}

// TestP9_5_all compares Spare with all sets of points that can be missing.
func TestP9_5_all(t *testing.T) {
	eachAnchor(t, 5, 1000, func(r *rand.Rand, points []api.Span, load int) {
		if spare, e := ropes.Spare(points, load); e != api.OK || spare != spareBy(points, load) {
			t.Errorf("Spare = %d, %d, want %d", spare, e, spareBy(points, load))
		}
	})
}

// TestP9_6_all compares Choose with all slices of points.
func TestP9_6_all(t *testing.T) {
	eachAnchor(t, 6, 1000, func(r *rand.Rand, points []api.Span, load int) {
		least := r.Intn(4)
		want, found := firstChoice(len(points), func(numbers []int) bool { return spareBy(only(points, numbers), load) >= least })
		l, e := ropes.Choose(points, load, least)
		if found != (e == api.OK) || !found && e != api.ErrNone || !slices.Equal(l, want) {
			t.Errorf("Choose with %d to spare = %v, %d, want %v, %t", least, l, e, want, found)
		}
	})
}

// TestP9_14: whatever the strengths are, what surely holds holds, and what may not does
// not; lower loads and more points do not harm; and Spare points may be missing, but no
// more.
func TestP9_14(t *testing.T) {
	eachAnchor(t, 14, 1000, func(r *rand.Rand, points []api.Span, load int) {
		sure, may, e := ropes.Holds(points, load)
		for range 10 {
			var strengths []int
			for _, p := range points {
				strengths = append(strengths, between(r, p.Low, p.High))
			}
			if holds := stands(strengths, load); e != api.OK || sure && !holds || !may && holds {
				t.Errorf("Holds = %t, %t, %d, with the strengths %v: %t", sure, may, e, strengths, holds)
			}
		}
		lower := between(r, 1, load)
		more := slices.Insert(slices.Clone(points), r.Intn(len(points)+1), randomSpan(r, 0, api.MaxStrength))
		sureLower, mayLower, _ := ropes.Holds(points, lower)
		sureMore, mayMore, _ := ropes.Holds(more, load)
		if sure && !(sureLower && sureMore) || may && !(mayLower && mayMore) {
			t.Errorf("Holds = %t, %t, but not %d or %v", sure, may, lower, more)
		}
		checkSpare(t, points, load)
	})
}

// checkSpare asks Holds with the points that are left of an anchor.
func checkSpare(t *testing.T, points []api.Span, load int) {
	t.Helper()
	spare, e := ropes.Spare(points, load)
	if e != api.OK || spare < -1 || spare >= max(len(points), 1) {
		t.Errorf("Spare = %d, %d", spare, e)
	}
	isLost := func(missing []int) bool {
		sure, _, e := ropes.Holds(except(points, missing), load)
		return e != api.OK || !sure
	}
	for count := range spare + 1 {
		if slices.ContainsFunc(choices(len(points), count), isLost) {
			t.Errorf("Spare = %d, but not whichever %d points are missing", spare, count)
		}
	}
	if !slices.ContainsFunc(choices(len(points), spare+1), isLost) {
		t.Errorf("Spare = %d, but so many and one may be missing", spare)
	}
}

// TestP9_15: Teams keep all rules, and there are Teams, with at least as many guides as
// Guides, if there are any teams, as told by trying all of them.
func TestP9_15(t *testing.T) {
	found := 0
	eachOuting(t, 15, 3000, func(r *rand.Rand, o api.Outing) {
		least, want := fewestGuides(o), api.OK
		if least < 0 {
			least, want = 0, api.ErrNone
		} else if len(o.Clients) > 1 {
			found++
		}
		count, e := ropes.Guides(o)
		if count != least || e != want {
			t.Errorf("Guides = %d, %d, want %d, %d", count, e, least, want)
		}
		guides, tied, e := ropes.Teams(o)
		if e != want || e == api.OK && broken(o, guides, tied) != "" {
			t.Errorf("Teams = %v, %v, %d: %s", guides, tied, e, broken(o, guides, tied))
		}
		if e == api.OK && len(slices.Compact(slices.Sorted(slices.Values(guides)))) < count {
			t.Errorf("Teams = %v, but Guides = %d", guides, count)
		}
	})
	if found < 200 {
		t.Errorf("only %d outings of several clients have teams", found)
	}
}

// TestP9_10_all compares Level with all years and all sinkings.
func TestP9_10_all(t *testing.T) {
	eachHut(t, 10, 1000, func(r *rand.Rand, posts []api.Post, limit int) {
		want := 0
		for years := range api.MaxYears + 1 {
			if isLevel(posts, limit, years) {
				want = years
			}
		}
		if years, e := ropes.Level(posts, limit); e != api.OK || years != want {
			t.Errorf("Level = %d, %d, want %d", years, e, want)
		}
	})
}

// TestP9_11_all compares Prop with all slices of posts.
func TestP9_11_all(t *testing.T) {
	eachHut(t, 11, 1500, func(r *rand.Rand, posts []api.Post, limit int) {
		years := r.Intn([]int{5, api.MaxYears + 1}[r.Intn(2)])
		want, _ := firstChoice(len(posts), func(numbers []int) bool { return isLevel(except(posts, numbers), limit, years) })
		if l, e := ropes.Prop(posts, limit, years); e != api.OK || !slices.Equal(l, want) {
			t.Errorf("Prop after %d years = %v, %d, want %v", years, l, e, want)
		}
	})
}

// TestP9_16: with any sinking no tilt exceeds the limit up to Level, or without the
// posts of Prop; a year later, or with any fewer posts left out, some can.
func TestP9_16(t *testing.T) {
	eachHut(t, 16, 1000, func(r *rand.Rand, posts []api.Post, limit int) {
		level, e := ropes.Level(posts, limit)
		if e != api.OK {
			t.Fatalf("Level: %d", e)
		}
		exceeds := func(posts []api.Post, years int) bool {
			for range 20 {
				var sinks []int
				for _, p := range posts {
					sinks = append(sinks, between(r, p.Sink.Low, p.Sink.High))
				}
				for i, a := range posts {
					for j, b := range posts[:i] {
						if tilts(a, b, sinks[i], sinks[j], limit, years) {
							return true
						}
					}
				}
			}
			return false
		}
		if exceeds(posts, level) || exceeds(posts, r.Intn(level+1)) {
			t.Errorf("Level = %d, but a tilt exceeds the limit", level)
		}
		if level < api.MaxYears && isLevel(posts, limit, level+1) {
			t.Errorf("Level = %d, but no tilt exceeds the limit a year later", level)
		}
		years := r.Intn(api.MaxYears + 1)
		l, e := ropes.Prop(posts, limit, years)
		if e != api.OK || exceeds(except(posts, l), years) || len(l) > max(len(posts)-1, 0) {
			t.Errorf("Prop after %d years = %v, %d, but a tilt exceeds the limit", years, l, e)
		}
		if (len(l) == 0) != (years <= level) {
			t.Errorf("Prop after %d years = %v, but Level = %d", years, l, level)
		}
		for _, fewer := range choices(len(posts), len(l)-1) {
			if len(l) > 0 && isLevel(except(posts, fewer), limit, years) {
				t.Errorf("Prop after %d years = %v, but %v are enough", years, l, fewer)
			}
		}
	})
}

// TestP0_11 (led): a guide with clients can walk each path up to the grade of the
// outing, and surely arrives nowhere later than a party at the same pace that can walk
// just these.
func TestP0_11(t *testing.T) {
	led := 0
	eachOuting(t, 11, 600, func(r *rand.Rand, o api.Outing) {
		guides, _, e := ropes.Teams(o)
		if e != api.OK {
			return
		}
		n, plain := randomNet(r), api.Party{Grade: o.Grade, Pace: randomSpan(r, 50, 300), Load: r.Intn(api.MaxLoad + 1)}
		from, start := r.Intn(n.Places), r.Intn(300)
		for _, guide := range guides {
			led++
			leader := plain
			leader.Grade = o.Guides[guide].Grade
			for i, path := range n.Paths {
				if _, e := paths.Walk(n, leader, i); path.Grade <= o.Grade && e != api.OK {
					t.Errorf("the guide %d cannot walk the path %d: %d", guide, i, e)
				}
			}
			arrivals, _, e := paths.Arrive(n, leader, from, start)
			others, _, e2 := paths.Arrive(n, plain, from, start)
			if e != api.OK || e2 != api.OK {
				t.Fatalf("Arrive: %d, %d", e, e2)
			}
			for place, other := range others {
				if other >= 0 && (arrivals[place] < 0 || arrivals[place] > other) {
					t.Errorf("the guide %d arrives at %d at %d, others at %d", guide, place, arrivals[place], other)
				}
			}
		}
	})
	if led < 200 {
		t.Errorf("only %d clients are led", led)
	}
}

func randomNet(r *rand.Rand) api.Net {
	n := api.Net{Places: between(r, 2, 6)}
	for range r.Intn(13) {
		from := r.Intn(n.Places)
		path := api.Path{From: from, To: (from + between(r, 1, n.Places-1)) % n.Places, Grade: between(r, 1, api.MaxGrade), Time: randomSpan(r, 1, 60), Snow: randomSpan(r, 0, 10)}
		for range r.Intn(3) + 1 {
			path.Opens = append(path.Opens, randomSpan(r, 0, api.MaxMinute))
		}
		n.Paths = append(n.Paths, path)
	}
	return n
}
