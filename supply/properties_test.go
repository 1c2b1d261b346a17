package supply_test

import (
	"math/rand"
	"reflect"
	"slices"
	"testing"

	"bivouac/api"
	"bivouac/supply"
	"bivouac/water"
)

// TestP6_2_all: in any supply Loads is what the definition says, and the least
// load of those with each possible scenario alone (P0.1).
func TestP6_2_all(t *testing.T) {
	counts := map[string]int{}
	for _, z := range []size{small(), medium(), large()} {
		eachSupply(t, z, 2, 200, func(r *rand.Rand, s api.Supply, want [][]int) {
			loads, e := supply.Loads(s)
			if !sameRows(loads, want) || e != api.OK {
				t.Errorf("Loads = %v, %d, want %v", loads, e, want)
			}
			alone := s
			for i, scenario := range possible(s) {
				alone.Forecast, alone.Seen = forecast(scenario.Hours), nil
				one, e := supply.Loads(alone)
				if e != api.OK {
					t.Fatalf("Loads: %d", e)
				}
				for carrier, row := range one {
					for hour, load := range row {
						if i == 0 || load < want[carrier][hour] {
							want[carrier][hour] = load
						}
					}
				}
			}
			if !sameRows(loads, want) {
				t.Errorf("Loads = %v, but %v by the possible scenarios alone", loads, want)
			}
			for carrier, row := range loads {
				for _, load := range row {
					counts["none"] += isTrue(load == 0)
					counts["less"] += isTrue(0 < load && load < s.Carriers[carrier].Lift)
				}
			}
		})
	}
	if min(counts["none"], counts["less"]) < 500 {
		t.Errorf("just so many loads of each kind: %v", counts)
	}
}

func isTrue(b bool) int {
	if b {
		return 1
	}
	return 0
}

// TestP6_3_all: in any supply Next is what Window says, and what the stocks
// without trips are.
func TestP6_3_all(t *testing.T) {
	counts := map[any]int{}
	for _, z := range []size{small(), medium(), large()} {
		eachSupply(t, z, 3, 400, func(r *rand.Rand, s api.Supply, loads [][]int) {
			for carrier := range s.Carriers {
				length := 1 + r.Intn(4)
				last := lastWindow(t, s, carrier, length)
				stocks := run(s, loads, nil, constant(s, s.Store.Use.High)).left[:max(0, last)]
				want := last >= 0 && !slices.ContainsFunc(stocks, func(stock int) bool { return stock < s.Store.Reserve })
				hours, enough, e := supply.Next(s, carrier, length)
				if hours != max(0, last) || enough != want || (e == api.ErrNone) != (last < 0) || e != api.OK && e != api.ErrNone {
					t.Errorf("Next of %d with %d = %d, %v, %d, want %d, %v", carrier, length, hours, enough, e, last, want)
				}
				counts[e]++
				if hours > 0 {
					counts[enough]++
				}
			}
		})
	}
	if min(counts[api.OK], counts[api.ErrNone], counts[true], counts[false]) < 50 {
		t.Errorf("just so many cases of each kind: %v", counts)
	}
}

// TestP6_4_all: in any supply with any trips and amounts Stocks is what the
// definition says.
func TestP6_4_all(t *testing.T) {
	below, above := 0, 0
	for _, z := range []size{small(), medium(), large()} {
		eachSupply(t, z, 4, 200, func(r *rand.Rand, s api.Supply, loads [][]int) {
			trips, uses := pickTrips(r, s, loads), pickUses(r, s)
			want := run(s, loads, trips, uses).left
			stocks, e := supply.Stocks(s, trips, uses)
			if !slices.Equal(stocks, want) || e != api.OK {
				t.Errorf("Stocks with %v and %v = %v, %d, want %v", trips, uses, stocks, e, want)
			}
			below += isTrue(slices.Min(want) < 0)
			above += isTrue(slices.Max(want) > s.Store.Room)
		})
	}
	if min(below, above) < 30 {
		t.Errorf("just %d cases with a stock below 0, and %d above the room", below, above)
	}
}

// TestP6_5_all: in any supply with any trips Lasts is what the definition says.
func TestP6_5_all(t *testing.T) {
	counts := map[any]int{}
	for _, z := range []size{small(), medium(), large()} {
		eachSupply(t, z, 5, 300, func(r *rand.Rand, s api.Supply, loads [][]int) {
			trips := pickTrips(r, s, loads)
			most, least := run(s, loads, trips, constant(s, s.Store.Use.High)), run(s, loads, trips, constant(s, s.Store.Use.Low))
			sure, may, fits, e := supply.Lasts(s, trips)
			if sure != lastsOf(s, most) || may != lastsOf(s, least) || fits != fitsIn(s, least) || e != api.OK {
				t.Errorf("Lasts with %v = %d, %d, %v, %d", trips, sure, may, fits, e)
			}
			counts[fits]++
			counts["all"] += isTrue(sure == hoursOf(s))
			counts["apart"] += isTrue(sure < may)
		})
	}
	if min(counts[true], counts[false], counts["all"], counts["apart"]) < 50 {
		t.Errorf("just so many cases of each kind: %v", counts)
	}
}

// TestP6_6_all: in small supplies no set of trips that is a plan costs less than
// Plan; there is one if any is. So each plan costs at least what Proof says, too
// (P6.10).
func TestP6_6_all(t *testing.T) {
	counts := map[any]int{}
	eachSupply(t, small(), 6, 3000, func(r *rand.Rand, s api.Supply, loads [][]int) {
		want, found := cheapest(s, loads)
		list, cost, e := supply.Plan(s)
		bounds, e2 := supply.Proof(s)
		if e != e2 || cost != want || found != (e == api.OK) || !found && e != api.ErrNone {
			t.Errorf("Plan = %v, %d, %d, Proof: %d, want %d, %v", list, cost, e, e2, want, found)
		}
		counts[found]++
		if !found {
			return
		}
		if !areTrips(loads, list) || !isPlan(s, loads, list) || costOf(s, list) != cost || bounds[0].Cost != cost {
			t.Errorf("Plan = %v, %d, with the proof %v", list, cost, bounds)
		}
		counts["none"] += isTrue(len(list) == 0)
		counts["many"] += isTrue(len(list) > 2)
		for i := range list[:max(0, len(list)-1)] {
			counts["together"] += isTrue(list[i].Hour == list[i+1].Hour)
		}
	})
	if min(counts[true], counts[false], counts["none"], counts["many"], counts["together"]) < 60 {
		t.Errorf("just so many cases of each kind: %v", counts)
	}
}

// TestP6_7_all: in any supply with a plan Proof proves its cost by the rules of
// the section Proofs. The plan is one by the definition.
func TestP6_7_all(t *testing.T) {
	proven, greatest := 0, 0
	for z, cases := range map[size]int{small(): 1000, medium(): 500, large(): 25} {
		eachSupply(t, z, 7, cases, func(r *rand.Rand, s api.Supply, loads [][]int) {
			bounds, e := supply.Proof(s)
			list, cost, e2 := supply.Plan(s)
			if e != e2 || e != api.OK && e != api.ErrNone {
				t.Fatalf("Proof: %d, Plan: %d", e, e2)
			}
			if e == api.ErrNone {
				return
			}
			if wrong := flaw(s, loads, bounds, cost); wrong != "" {
				t.Errorf("Proof of %d: %s", cost, wrong)
			}
			if !areTrips(loads, list) || !isPlan(s, loads, list) || costOf(s, list) != cost {
				t.Errorf("Plan = %v, %d", list, cost)
			}
			proven += isTrue(cost > 0)
			greatest = max(greatest, len(bounds))
		})
	}
	if proven < 100 || greatest < 10000 {
		t.Errorf("just %d proofs of a cost, with up to %d bounds", proven, greatest)
	}
}

// TestP6_7_same: the results do not depend on the order in which ways are known.
func TestP6_7_same(t *testing.T) {
	eachSupply(t, medium(), 70, 50, func(r *rand.Rand, s api.Supply, loads [][]int) {
		list, _, _ := supply.Plan(s)
		bounds, _ := supply.Proof(s)
		for range 3 {
			again, _, _ := supply.Plan(s)
			bounds2, _ := supply.Proof(s)
			if !slices.Equal(again, list) || !slices.Equal(bounds2, bounds) {
				t.Errorf("Plan and Proof = %v, %v, and then %v, %v", list, bounds, again, bounds2)
			}
		}
	})
}

// TestP6_8: with a plan at least the reserve is left, and no more than the room
// is in the store, whatever is used; its trips are made in hours that keep the
// limits of their carriers, in any possible weather.
func TestP6_8(t *testing.T) {
	made := 0
	for z, cases := range map[size]int{small(): 1000, medium(): 500, large(): 15} {
		eachSupply(t, z, 8, cases, func(r *rand.Rand, s api.Supply, loads [][]int) {
			list, _, e := supply.Plan(s)
			if e != api.OK {
				return
			}
			made += len(list)
			for range 10 {
				uses, sky := pickUses(r, s), pickWeather(r, s)
				stocks, e := supply.Stocks(s, list, uses)
				if e != api.OK || slices.Min(stocks) < s.Store.Reserve || slices.Max(stocks) > s.Store.Room {
					t.Errorf("Stocks with the plan %v and %v = %v, %d", list, uses, stocks, e)
				}
				if full := run(s, loads, list, uses).full; slices.Max(full) > s.Store.Room {
					t.Errorf("the plan %v has the stocks %v", list, full)
				}
				for _, x := range list {
					if windowIn(sky[x.Hour:x.Hour+1], s.Carriers[x.Carrier].Limits, 1) != 0 {
						t.Errorf("the plan %v has the trip %v, but it can be %v", list, x, sky[x.Hour])
					}
				}
			}
		})
	}
	if made < 500 {
		t.Errorf("just %d trips", made)
	}
}

// TestP6_9: the stock after the last hour is that before the first one, with all
// loads, less all amounts.
func TestP6_9(t *testing.T) {
	for _, z := range []size{small(), medium(), large()} {
		eachSupply(t, z, 9, 200, func(r *rand.Rand, s api.Supply, _ [][]int) {
			loads, e := supply.Loads(s)
			trips, uses := pickTrips(r, s, loads), pickUses(r, s)
			stocks, e2 := supply.Stocks(s, trips, uses)
			if e != api.OK || e2 != api.OK {
				t.Fatalf("Loads: %d, Stocks: %d", e, e2)
			}
			want := s.Store.Stock
			for _, x := range trips {
				want += loads[x.Carrier][x.Hour]
			}
			for _, amount := range uses {
				want -= amount
			}
			if stocks[len(stocks)-1] != want {
				t.Errorf("Stocks with %v and %v = %v, want %d at last", trips, uses, stocks, want)
			}
		})
	}
}

// TestP6_10: many plans of greater supplies cost at least what Proof says.
func TestP6_10(t *testing.T) {
	plans := 0
	eachSupply(t, medium(), 10, 300, func(r *rand.Rand, s api.Supply, loads [][]int) {
		bounds, e := supply.Proof(s)
		for range 100 {
			trips := pickTrips(r, s, loads)
			if !isPlan(s, loads, trips) {
				continue
			}
			plans++
			if e != api.OK || costOf(s, trips) < bounds[0].Cost {
				t.Errorf("the plan %v costs %d, Proof = %v, %d", trips, costOf(s, trips), bounds, e)
			}
		}
	})
	if plans < 500 {
		t.Errorf("just %d plans", plans)
	}
}

// easier returns supplies with a lower reserve, more room, one more carrier, and
// a lower cost of one.
func easier(r *rand.Rand, z size, s api.Supply) []api.Supply {
	reserve, room, more, cheap := s, s, copySupply(s), copySupply(s)
	reserve.Store.Reserve = pick(r, span(0, s.Store.Reserve))
	room.Store.Room = pick(r, span(s.Store.Room, min(api.MaxStore, s.Store.Room+z.unit)))
	if len(s.Carriers) < api.MaxCarriers {
		more.Carriers = slices.Insert(more.Carriers, r.Intn(len(s.Carriers)+1), z.carrier(r))
	}
	for i, c := range s.Carriers {
		cheap.Carriers[i].Cost = pick(r, span(c.Cost/2, c.Cost))
	}
	return []api.Supply{reserve, room, more, cheap}
}

// TestP6_11: with a lower reserve, more room, one more carrier or a lower cost
// the least cost is not greater, and no plan is lost.
func TestP6_11(t *testing.T) {
	var gained, less [4]int
	for _, z := range []size{small(), medium()} {
		eachSupply(t, z, 11, 1500, func(r *rand.Rand, s api.Supply, _ [][]int) {
			cost, ok := leastCost(t, s)
			for i, other := range easier(r, z, s) {
				after, ok2 := leastCost(t, other)
				if ok && (!ok2 || after > cost) {
					t.Errorf("Plan costs %d, and %d (%v) with %+v", cost, after, ok2, other)
				}
				gained[i] += isTrue(!ok && ok2)
				less[i] += isTrue(ok && after < cost)
			}
		})
	}
	if min(gained[0], gained[1], gained[2]) < 10 || slices.Min(less[:]) < 10 || gained[3] > 0 {
		t.Errorf("just so many plans more: %v, and so many that cost less: %v", gained, less)
	}
}

// TestP6_12: with one more observation no load is less, and the wait for a window
// does not become longer (P0.10).
func TestP6_12(t *testing.T) {
	more, shorter := 0, 0
	for _, z := range []size{small(), medium(), large()} {
		eachSupply(t, z, 12, 300, func(r *rand.Rand, s api.Supply, _ [][]int) {
			other, ok := oneMore(r, s)
			before, e := supply.Loads(s)
			after, e2 := supply.Loads(other)
			if e != api.OK || e2 != api.OK {
				t.Fatalf("Loads: %d, and then %d", e, e2)
			}
			more += isTrue(ok && !reflect.DeepEqual(before, after))
			for carrier := range before {
				for hour, load := range before[carrier] {
					if after[carrier][hour] < load {
						t.Errorf("Loads = %v, and then %v with %v", before, after, other.Seen)
					}
				}
				length := 1 + r.Intn(3)
				hours, enough, e := supply.Next(s, carrier, length)
				hours2, enough2, e2 := supply.Next(other, carrier, length)
				if e == api.OK && (e2 != api.OK || hours2 > hours || enough && !enough2) {
					t.Errorf("Next = %d, %v, and then %d, %v, %d with %v", hours, enough, hours2, enough2, e2, other.Seen)
				}
				shorter += isTrue(e2 == api.OK && (e != api.OK || hours2 < hours))
			}
		})
	}
	if min(more, shorter) < 30 {
		t.Errorf("just %d cases with more load, and %d with a shorter wait", more, shorter)
	}
}

// TestP6_13: if Next says that it is enough, at least the reserve is left after
// each hour before the window begins, in any possible weather without trips.
func TestP6_13(t *testing.T) {
	enoughs := 0
	for _, z := range []size{small(), medium(), large()} {
		eachSupply(t, z, 13, 300, func(r *rand.Rand, s api.Supply, _ [][]int) {
			for carrier, c := range s.Carriers {
				length := 1 + r.Intn(3)
				hours, enough, e := supply.Next(s, carrier, length)
				if e != api.OK {
					continue
				}
				for range 5 {
					begins := windowIn(pickWeather(r, s), c.Limits, length)
					if begins < 0 || begins > hours {
						t.Fatalf("Next = %d, but the window begins at %d", hours, begins)
					}
					stocks, e := supply.Stocks(s, nil, pickUses(r, s))
					if enough && begins > 0 && slices.Min(stocks[:begins]) < s.Store.Reserve || e != api.OK {
						t.Errorf("Next = %d, %v, but Stocks = %v, %d", hours, enough, stocks, e)
					}
					enoughs += isTrue(enough && begins > 0)
				}
			}
		})
	}
	if enoughs < 100 {
		t.Errorf("just %d cases in which it is enough", enoughs)
	}
}

// TestP0_2: a store that holds the fuel for the treatment of water does not run
// out with a plan, however much of it each hour takes within the use.
func TestP0_2(t *testing.T) {
	w := api.Water{Springs: []api.Spring{{Yield: span(9, 20), Fuel: 2}, {Yield: span(9, 9), Fuel: 5}, {Yield: span(7, 9), Fuel: 3}}, Most: 2}
	treated := 0
	eachSupply(t, medium(), 102, 200, func(r *rand.Rand, s api.Supply, _ [][]int) {
		s.Store.Use = span(0, 10)
		list, _, e := supply.Plan(s)
		if e != api.OK {
			return
		}
		var uses []int
		for range hoursOf(s) {
			_, _, fuel, e := water.Serve(w, r.Intn(26))
			if e != api.OK {
				t.Fatalf("Serve: %d", e)
			}
			treated += fuel
			uses = append(uses, fuel)
		}
		stocks, e := supply.Stocks(s, list, uses)
		if e != api.OK || slices.Min(stocks) < s.Store.Reserve {
			t.Errorf("Stocks with the plan %v and the fuel %v = %v, %d", list, uses, stocks, e)
		}
	})
	if treated < 1000 {
		t.Errorf("just %d kilograms of fuel", treated)
	}
}
