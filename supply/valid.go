package supply

import (
	"cmp"
	"slices"

	"bivouac/api"
	"bivouac/weather"
)

// begin checks a supply.
func begin(s api.Supply) (hut, api.Errno) {
	if e := Check(s); e != api.OK {
		return hut{}, e
	}
	return newHut(s), api.OK
}

// beginTrips checks a supply, and then trips of it.
func beginTrips(s api.Supply, trips []api.Trip) (hut, api.Errno) {
	h, e := begin(s)
	if e == api.OK && !h.areTrips(trips) {
		return hut{}, api.ErrTrips
	}
	return h, e
}

// beginPlan checks a supply that has to have a plan.
func beginPlan(s api.Supply) (planner, api.Errno) {
	h, e := begin(s)
	if e != api.OK {
		return planner{}, e
	}
	p := newPlanner(h)
	if p.cost() == noPlan {
		return planner{}, api.ErrNone
	}
	return p, api.OK
}

func unless(ok bool, e api.Errno) api.Errno {
	if ok {
		return api.OK
	}
	return e
}

func checkStore(s api.Store) api.Errno {
	isUse := isWithin(s.Use.High, 0, api.MaxUse) && isWithin(s.Use.Low, 0, s.Use.High)
	isStock := isWithin(s.Room, 0, api.MaxStore) && isWithin(s.Stock, 0, s.Room) && isWithin(s.Reserve, 0, s.Room)
	return unless(isUse && isStock, api.ErrStore)
}

// checkCarriers relies on a forecast and observations without an error, as then
// Keeps has none but that of the limits.
func checkCarriers(s api.Supply) api.Errno {
	isWrong := func(c api.Carrier) bool {
		_, _, e := weather.Keeps(s.Forecast, s.Seen, c.Limits)
		isNumber := isWithin(c.Lift, 0, api.MaxLift) && isWithin(c.Heat, 0, api.MaxHeat) && isWithin(c.Cost, 0, api.MaxPrice)
		return e != api.OK || !isNumber
	}
	return unless(len(s.Carriers) <= api.MaxCarriers && !slices.ContainsFunc(s.Carriers, isWrong), api.ErrCarrier)
}

func (h hut) isCarrier(carrier int) bool { return isWithin(carrier, 0, len(h.Carriers)-1) }

// areTrips reports whether trips are some of the hut, in strictly ascending
// order.
func (h hut) areTrips(trips []api.Trip) bool {
	if len(trips) > api.MaxTrips {
		return false
	}
	for i, t := range trips {
		if !h.isTrip(t) || i > 0 && compareTrips(trips[i-1], t) >= 0 {
			return false
		}
	}
	return true
}

func (h hut) isTrip(t api.Trip) bool {
	return h.isCarrier(t.Carrier) && isWithin(t.Hour, 0, h.hours-1) && h.loads[t.Carrier][t.Hour] > 0
}

func compareTrips(a, b api.Trip) int {
	return cmp.Or(cmp.Compare(a.Hour, b.Hour), cmp.Compare(a.Carrier, b.Carrier))
}

// areUses reports whether there is an amount for each hour, each of which can be
// used.
func (h hut) areUses(uses []int) bool {
	isWrong := func(amount int) bool { return !isWithin(amount, h.Store.Use.Low, h.Store.Use.High) }
	return len(uses) == h.hours && !slices.ContainsFunc(uses, isWrong)
}

func isWithin(x, low, high int) bool { return low <= x && x <= high }
