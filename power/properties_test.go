package power_test

import (
	"math/rand"
	"reflect"
	"slices"
	"testing"

	"bivouac/api"
	"bivouac/power"
	"bivouac/supply"
)

// TestP10_2_all: in any plant Yields is what the definition says, with all skies that an
// hour can have. So the yield of each possible weather is in it, and each end of a span
// is one in some weather (P10.12).
func TestP10_2_all(t *testing.T) {
	wide, none := 0, 0
	for z, cases := range map[size]int{small(): 1000, medium(): 300, large(): 10} {
		eachPlant(t, z, 2, cases, func(r *rand.Rand, p api.Plant) {
			want := make([]api.Span, hoursOf(p))
			for i, rows := range yieldTable(p) {
				for hour, row := range rows {
					if i == 0 {
						want[hour] = span(row[0], row[0])
					}
					want[hour] = span(min(want[hour].Low, row[0]), max(want[hour].High, row[len(row)-1]))
				}
			}
			yields, e := power.Yields(p)
			if !slices.Equal(yields, want) || e != api.OK {
				t.Errorf("Yields = %v, %d, want %v", yields, e, want)
			}
			for hour, sky := range pickWeather(r, p) {
				if !isIn(yieldBy(p, hour, sky), yields[hour]) {
					t.Errorf("Yields = %v, but the hour %d can have %v", yields, hour, sky)
				}
				wide += isTrue(want[hour].Low < want[hour].High)
				none += isTrue(want[hour].Low == 0)
			}
		})
	}
	if min(wide, none) < 500 {
		t.Errorf("just %d spans of more than a number, and %d with 0", wide, none)
	}
}

// TestP10_3_all: in any plant with any burn and weather Levels is what the definition
// says.
func TestP10_3_all(t *testing.T) {
	below, losses := 0, 0
	for _, z := range []size{small(), medium(), large()} {
		eachPlant(t, z, 3, 300, func(r *rand.Rand, p api.Plant) {
			burn, weather := pickBurn(r, p), pickWeather(r, p)
			want, much := course(p, burn, yieldsOf(p, weather))
			levels, lost, e := power.Levels(p, burn, weather)
			if !slices.Equal(levels, want) || lost != much || e != api.OK {
				t.Errorf("Levels with %v in %v = %v, %d, %d, want %v, %d", burn, weather, levels, lost, e, want, much)
			}
			below += isTrue(slices.Min(want) < 0)
			losses += isTrue(much > 0)
		})
	}
	if min(below, losses) < 100 {
		t.Errorf("just %d cases with a level below 0, and %d with a loss", below, losses)
	}
}

// TestP1_skies_all: just the possible weathers are ones of a plant.
func TestP1_skies_all(t *testing.T) {
	counts := map[bool]int{}
	eachPlant(t, small(), 31, 2000, func(r *rand.Rand, p api.Plant) {
		weather := pickWeather(r, p)
		other := &weather[r.Intn(len(weather))]
		*[]*int{&other.Wind, &other.Rain, &other.Temp}[r.Intn(3)] += r.Intn(5) - 2
		ok := isWeather(p, weather)
		_, _, e := power.Levels(p, make([]int, hoursOf(p)), weather)
		if ok != (e == api.OK) || !ok && e != api.ErrSky {
			t.Errorf("Levels in %v: %d, but possible: %v", weather, e, ok)
		}
		counts[ok]++
	})
	if min(counts[true], counts[false]) < 300 {
		t.Errorf("just so many cases of each kind: %v", counts)
	}
}

// TestP10_4_all: in small plants with any burn Lasts is the least of all weathers, and of
// all levels in greater ones. It is the least one of those with each possible scenario
// alone (P0.1).
func TestP10_4_all(t *testing.T) {
	some, all := 0, 0
	for z, cases := range map[size]int{small(): 1500, medium(): 300} {
		eachPlant(t, z, 4, cases, func(r *rand.Rand, p api.Plant) {
			burn, table := pickBurn(r, p), yieldTable(p)
			want := lastsByLevels(p, table, burn)
			if z == small() && lastsBy(p, table, burn) != want {
				t.Fatalf("in all weathers %d, but %d by the levels", lastsBy(p, table, burn), want)
			}
			hours, e := power.Lasts(p, burn)
			if hours != want || e != api.OK {
				t.Errorf("Lasts with %v = %d, %d, want %d", burn, hours, e, want)
			}
			least := hoursOf(p)
			for _, s := range possible(p) {
				one, e := power.Lasts(alone(p, s), burn)
				least = min(least, one)
				if e != api.OK {
					t.Errorf("Lasts: %d", e)
				}
			}
			if least != hours {
				t.Errorf("Lasts with %v = %d, but %d with each scenario alone", burn, hours, least)
			}
			some += isTrue(0 < hours && hours < hoursOf(p))
			all += isTrue(hours == hoursOf(p))
		})
	}
	if min(some, all) < 100 {
		t.Errorf("just %d cases in which it lasts for some hours, and %d for all", some, all)
	}
}

// TestP10_5_all: in any plant with any burn Worst is a possible weather in which it lasts
// as long as Lasts says; it lasts at least as long in any possible weather (P10.13).
func TestP10_5_all(t *testing.T) {
	found := 0
	for _, z := range []size{small(), medium(), large()} {
		eachPlant(t, z, 5, 400, func(r *rand.Rand, p api.Plant) {
			burn := pickBurn(r, p)
			hours, e := power.Lasts(p, burn)
			weather, e2 := power.Worst(p, burn)
			if e != api.OK || hours == hoursOf(p) && e2 != api.ErrNone || hours < hoursOf(p) && e2 != api.OK {
				t.Fatalf("Lasts with %v = %d, %d, Worst = %v, %d", burn, hours, e, weather, e2)
			}
			for range 5 {
				levels, _, e := power.Levels(p, burn, pickWeather(r, p))
				if lastsIn(p, levels) < hours || e != api.OK {
					t.Errorf("Lasts with %v = %d, but Levels = %v, %d", burn, hours, levels, e)
				}
			}
			if e2 != api.OK {
				return
			}
			levels, _ := course(p, burn, yieldsOf(p, weather))
			if !isWeather(p, weather) || lastsIn(p, levels) != hours {
				t.Errorf("Lasts with %v = %d, Worst = %v with the levels %v", burn, hours, weather, levels)
			}
			found++
		})
	}
	if found < 200 {
		t.Errorf("just %d weathers", found)
	}
}

// TestP10_6_all: in small plants Plan is the first of all plans with the fewest units;
// and up to the end of each hour no plan has burnt fewer units (P10.11).
func TestP10_6_all(t *testing.T) {
	counts := map[any]int{}
	eachPlant(t, small(), 6, 3000, func(r *rand.Rand, p api.Plant) {
		plans := plansBy(p, yieldTable(p))
		burn, units, e := power.Plan(p)
		counts[len(plans) > 0]++
		if len(plans) == 0 {
			if len(burn) > 0 || units != 0 || e != api.ErrNone {
				t.Errorf("Plan = %v, %d, %d, but there is none", burn, units, e)
			}
			return
		}
		want := fewest(plans)
		if !slices.Equal(burn, want) || units != total(want) || e != api.OK {
			t.Errorf("Plan = %v, %d, %d, want %v", burn, units, e, want)
		}
		for _, other := range plans {
			for end := range other {
				if total(other[:end+1]) < total(burn[:end+1]) {
					t.Errorf("Plan = %v, but %v burns less", burn, other)
				}
			}
		}
		counts["gas"] += isTrue(units > 0)
		counts["much"] += isTrue(units > p.Rate)
		counts["choice"] += isTrue(slices.ContainsFunc(plans, func(other []int) bool { return total(other) == units && !slices.Equal(other, burn) }))
	})
	if min(counts[true], counts[false], counts["gas"], counts["much"], counts["choice"]) < 50 {
		t.Errorf("just so many cases of each kind: %v", counts)
	}
}

// TestP10_7_all: in small plants Spare is the greatest number with which there is a plan,
// and there is one with each lower number.
func TestP10_7_all(t *testing.T) {
	none, some := 0, 0
	eachPlant(t, small(), 7, 300, func(r *rand.Rand, p api.Plant) {
		table := yieldTable(p)
		want := -1
		for hasPlanBy(needing(p, want+1), table) {
			want++
		}
		spare, e := power.Spare(p)
		if spare != max(0, want) || (want < 0) != (e == api.ErrNone) || e != api.OK && e != api.ErrNone {
			t.Errorf("Spare = %d, %d, want %d", spare, e, want)
		}
		for more := want + 2; more < want+8; more++ {
			if hasPlanBy(needing(p, more), table) {
				t.Errorf("Spare = %d, but there is a plan with %d", spare, more)
			}
		}
		none += isTrue(want < 0)
		some += isTrue(want > 0)
	})
	if min(none, some) < 50 {
		t.Errorf("just %d cases without a plan, and %d with more than 0", none, some)
	}
}

// TestP10_8_all: in small plants Least is the first charge with which there is a plan, and
// there is one with each greater charge.
func TestP10_8_all(t *testing.T) {
	counts := map[string]int{}
	eachPlant(t, small(), 8, 400, func(r *rand.Rand, p api.Plant) {
		table := yieldTable(p)
		var charges []int
		for charge := range p.Battery.Capacity + 1 {
			if hasPlanBy(withCharge(p, charge), table) {
				charges = append(charges, charge)
			}
		}
		least, e := power.Least(p)
		if len(charges) == 0 {
			counts["none"]++
			if least != 0 || e != api.ErrNone {
				t.Errorf("Least = %d, %d, but there is none", least, e)
			}
			return
		}
		if least != charges[0] || len(charges) != p.Battery.Capacity+1-least || e != api.OK {
			t.Errorf("Least = %d, %d, but there are plans with %v", least, e, charges)
		}
		counts["some"] += isTrue(least > 0)
		counts["more"] += isTrue(least > p.Battery.Charge)
	})
	if min(counts["none"], counts["some"], counts["more"]) < 20 {
		t.Errorf("just so many cases of each kind: %v", counts)
	}
}

// TestP10_9: with the plan of Plan at least the reserve is left after each hour in every
// possible weather; it is a burn of the plant.
func TestP10_9(t *testing.T) {
	burnt := 0
	for _, z := range []size{small(), medium(), large()} {
		eachPlant(t, z, 9, 500, func(r *rand.Rand, p api.Plant) {
			burn, units, e := power.Plan(p)
			if e != api.OK {
				return
			}
			burnt += units
			if hours, e := power.Lasts(p, burn); hours != hoursOf(p) || e != api.OK || total(burn) != units {
				t.Errorf("Plan = %v, %d, Lasts = %d, %d", burn, units, hours, e)
			}
			for range 10 {
				weather := pickWeather(r, p)
				levels, _, e := power.Levels(p, burn, weather)
				if e != api.OK || slices.Min(levels) < p.Battery.Reserve {
					t.Errorf("Plan = %v, but Levels = %v, %d in %v", burn, levels, e, weather)
				}
			}
		})
	}
	if burnt < 1000 {
		t.Errorf("just %d units", burnt)
	}
}

// TestP10_10: Charge, all yields and the energy of all units burnt are, together, all
// needs, what is lost, and the level after the last hour.
func TestP10_10(t *testing.T) {
	for _, z := range []size{small(), medium(), large()} {
		eachPlant(t, z, 10, 300, func(r *rand.Rand, p api.Plant) {
			burn, weather := pickBurn(r, p), pickWeather(r, p)
			levels, lost, e := power.Levels(p, burn, weather)
			if e != api.OK {
				t.Fatalf("Levels: %d", e)
			}
			came := p.Battery.Charge + total(yieldsOf(p, weather)) + p.Gas*total(burn)
			if gone := total(p.Needs) + lost + levels[len(levels)-1]; came != gone {
				t.Errorf("Levels = %v, %d: %d came, but %d are gone or left", levels, lost, came, gone)
			}
		})
	}
}

// TestP10_11: no burn that is changed to be later, or to have fewer units, is a plan in
// greater plants.
func TestP10_11(t *testing.T) {
	changes := 0
	for z, cases := range map[size]int{medium(): 500, large(): 100} {
		eachPlant(t, z, 11, cases, func(r *rand.Rand, p api.Plant) {
			burn, units, e := power.Plan(p)
			if e != api.OK || units == 0 {
				return
			}
			for hour := range burn {
				for later := hour + 1; later <= len(burn); later++ {
					other := slices.Clone(burn)
					other[hour]--
					if later < len(burn) {
						other[later]++
					}
					if hours, e := power.Lasts(p, other); e == api.OK && hours == len(burn) {
						t.Errorf("Plan = %v, but %v is one, too", burn, other)
					} else if e == api.OK {
						changes++
					}
				}
			}
		})
	}
	if changes < 1000 {
		t.Errorf("just %d changes", changes)
	}
}

// easier returns plants with more Charge, Gas, Rate and Units, with less Needs, and with
// one more observation.
func easier(r *rand.Rand, p api.Plant) []api.Plant {
	var list []api.Plant
	for _, change := range []func(p *api.Plant){
		func(p *api.Plant) { p.Battery.Charge = pick(r, span(p.Battery.Charge, p.Battery.Capacity)) },
		func(p *api.Plant) { p.Gas += r.Intn(p.Gas + 2) },
		func(p *api.Plant) { p.Rate = pick(r, span(p.Rate, api.MaxRate)) },
		func(p *api.Plant) { p.Units = pick(r, span(p.Units, api.MaxUnits)) },
		func(p *api.Plant) {
			p.Needs = slices.Clone(p.Needs)
			hour := r.Intn(len(p.Needs))
			p.Needs[hour] = pick(r, span(0, p.Needs[hour]))
		},
		func(p *api.Plant) {
			hour := r.Intn(len(p.Needs))
			if len(p.Seen) < api.MaxSights && !slices.ContainsFunc(p.Seen, func(s api.Sight) bool { return s.Hour == hour }) {
				*p = seeing(*p, api.Sight{Hour: hour, Sky: pickWeather(r, *p)[hour]})
			}
		},
	} {
		list = append(list, changed(p, change))
	}
	return list
}

// TestP10_14: with any of these no plan is lost, and none needs more units.
func TestP10_14(t *testing.T) {
	var gained, fewer [6]int
	for z, cases := range map[size]int{small(): 3000, medium(): 2000, large(): 200} {
		eachPlant(t, z, 14, cases, func(r *rand.Rand, p api.Plant) {
			units, ok := planOf(t, p)
			burn := pickBurn(r, p)
			hours, e := power.Lasts(p, burn)
			for i, other := range easier(r, p) {
				after, ok2 := planOf(t, other)
				if ok && (!ok2 || after > units) {
					t.Errorf("%d: Plan needs %d units, and %d (%v) with %+v", i, units, after, ok2, other)
				}
				gained[i] += isTrue(!ok && ok2)
				fewer[i] += isTrue(ok && after < units)
				hours2, e2 := power.Lasts(other, burn)
				if e != api.OK || e2 != api.OK || hours2 < hours {
					t.Errorf("%d: Lasts with %v = %d, %d, and then %d, %d", i, burn, hours, e, hours2, e2)
				}
			}
		})
	}
	if slices.Min(gained[:]) < 10 || min(fewer[0], fewer[1], fewer[4], fewer[5]) < 10 || fewer[3] > 0 {
		t.Errorf("just so many plans more: %v, and so many with fewer units: %v", gained, fewer)
	}
}

// TestP10_15: with Spare more in each hour there is a plan, with 1 more than that there is
// none; with Least as the Charge there is one, with less there is none.
func TestP10_15(t *testing.T) {
	spares, leasts := 0, 0
	for z, cases := range map[size]int{medium(): 1000, large(): 200} {
		eachPlant(t, z, 15, cases, func(r *rand.Rand, p api.Plant) {
			_, ok := planOf(t, p)
			spare, e := power.Spare(p)
			if ok != (e == api.OK) {
				t.Errorf("Spare = %d, %d, but there is a plan: %v", spare, e, ok)
			}
			if more := needing(p, spare); e == api.OK && slices.Max(more.Needs) < api.MaxPower {
				_, with := planOf(t, more)
				if _, beyond := planOf(t, needing(p, spare+1)); !with || beyond {
					t.Errorf("Spare = %d, there is a plan: %v, and with one more: %v", spare, with, beyond)
				}
				spares += isTrue(spare > 0)
			}
			least, e := power.Least(p)
			if e != api.OK {
				if _, full := planOf(t, withCharge(p, p.Battery.Capacity)); full || ok || e != api.ErrNone {
					t.Errorf("Least: %d, but there is a plan", e)
				}
				return
			}
			if _, with := planOf(t, withCharge(p, least)); !with || ok && least > p.Battery.Charge {
				t.Errorf("Least = %d, but there is no plan with it", least)
			}
			if least > 0 {
				leasts++
				if _, less := planOf(t, withCharge(p, least-1)); less {
					t.Errorf("Least = %d, but there is a plan with less", least)
				}
			}
		})
	}
	if min(spares, leasts) < 50 {
		t.Errorf("just %d spares of more than 0, and %d charges", spares, leasts)
	}
}

// TestP0_1: a plant lasts as long as in the worst possible scenario, and needs at least
// as many units as in each of them.
func TestP0_1(t *testing.T) {
	more := 0
	for z, cases := range map[size]int{small(): 5000, medium(): 3000, large(): 100} {
		eachPlant(t, z, 101, cases, func(r *rand.Rand, p api.Plant) {
			units, ok := planOf(t, p)
			burn := pickBurn(r, p)
			hours, e := power.Lasts(p, burn)
			least, most := hoursOf(p), 0
			for _, s := range possible(p) {
				one := alone(p, s)
				n, e2 := power.Lasts(one, burn)
				if e != api.OK || e2 != api.OK {
					t.Fatalf("Lasts: %d, %d", e, e2)
				}
				least = min(least, n)
				units1, ok1 := planOf(t, one)
				if ok && (!ok1 || units1 > units) {
					t.Errorf("Plan needs %d units, but %d (%v) with %+v alone", units, units1, ok1, s)
				}
				most = max(most, units1)
			}
			if least != hours {
				t.Errorf("Lasts with %v = %d, but %d in the worst scenario", burn, hours, least)
			}
			more += isTrue(ok && units > most)
		})
	}
	if more == 0 {
		t.Error("no plant needs more than in each scenario alone")
	}
}

// TestP0_2: a store that holds the bottles of gas for a plant does not run out with a plan
// of trips, if its use allows what each hour burns; and the plant lasts, whatever the
// weather is.
func TestP0_2(t *testing.T) {
	const bottle = 11 // kilograms
	burnt, made := 0, 0
	for _, z := range []size{medium(), large()} {
		eachPlant(t, z, 102, 300, func(r *rand.Rand, p api.Plant) {
			s := api.Supply{Forecast: p.Forecast, Seen: p.Seen, Store: api.Store{Stock: 30, Reserve: 10, Room: api.MaxStore, Use: span(0, bottle*p.Rate)}}
			for range 2 {
				s.Carriers = append(s.Carriers, api.Carrier{Lift: 200, Heat: r.Intn(5), Cost: 1 + r.Intn(9), Limits: api.Limits{Wind: r.Intn(z.wind + 1), Rain: 50 + r.Intn(51), Temp: span(-50, 50)}})
			}
			burn, units, e := power.Plan(p)
			trips, _, e2 := supply.Plan(s)
			if e != api.OK || e2 != api.OK {
				return
			}
			burnt, made = burnt+units, made+len(trips)
			var uses []int
			for _, bottles := range burn {
				uses = append(uses, bottle*bottles)
			}
			stocks, e := supply.Stocks(s, trips, uses)
			if e != api.OK || slices.Min(stocks) < s.Store.Reserve {
				t.Errorf("Stocks with %v and %v = %v, %d", trips, uses, stocks, e)
			}
			levels, _, e := power.Levels(p, burn, pickWeather(r, p))
			if e != api.OK || slices.Min(levels) < p.Battery.Reserve {
				t.Errorf("Levels with %v = %v, %d", burn, levels, e)
			}
		})
	}
	if min(burnt, made) < 50 {
		t.Errorf("just %d bottles, and %d trips", burnt, made)
	}
}

// TestP10_same: the results do not depend on anything but the arguments.
func TestP10_same(t *testing.T) {
	eachPlant(t, medium(), 16, 100, func(r *rand.Rand, p api.Plant) {
		a := arguments{p: p, burn: pickBurn(r, p), weather: pickWeather(r, p)}
		for _, f := range calls {
			want, e := f.call(a)
			if results, e2 := f.call(a); !reflect.DeepEqual(results, want) || e2 != e {
				t.Errorf("%s: %v, %d, and then %v, %d", f.name, want, e, results, e2)
			}
		}
	})
}
