package supply

import (
	"bivouac/api"
	"bivouac/weather"
)

// hut is a supply that has been checked.
type hut struct {
	api.Supply
	hours int
	loads [][]int // by carriers and hours
}

// newHut makes calls of weather that have no error, as the supply has none.
func newHut(s api.Supply) hut {
	h := hut{Supply: s, hours: len(s.Forecast.Scenarios[0].Hours)}
	heat := h.heat()
	for _, c := range s.Carriers {
		h.loads = append(h.loads, h.loadsOf(c, heat))
	}
	return h
}

// heat returns for each hour the greatest temperature that it can have, 0 if that
// is below 0.
func (h hut) heat() []int {
	heat := make([]int, h.hours)
	for hour := range heat {
		whole, _ := weather.Range(h.Forecast, h.Seen, hour)
		heat[hour] = max(0, whole.Temp.High)
	}
	return heat
}

// loadsOf returns the load of a carrier in each hour.
func (h hut) loadsOf(c api.Carrier, heat []int) []int {
	loads := make([]int, h.hours)
	sure, _, _ := weather.Keeps(h.Forecast, h.Seen, c.Limits)
	for _, s := range sure {
		for hour := s.Low; hour <= s.High; hour++ {
			loads[hour] = max(0, c.Lift-c.Heat*heat[hour])
		}
	}
	return loads
}

// stocks returns the stock after each hour, with what some trips bring, and what
// is used in each hour.
func (h hut) stocks(trips []api.Trip, used func(hour int) int) []int {
	change := make([]int, h.hours)
	for _, t := range trips {
		change[t.Hour] += h.loads[t.Carrier][t.Hour]
	}
	stocks := make([]int, h.hours)
	stock := h.Store.Stock
	for hour := range stocks {
		stock += change[hour] - used(hour)
		stocks[hour] = stock
	}
	return stocks
}

// always is stocks if the same amount is used in each hour.
func (h hut) always(trips []api.Trip, use int) []int {
	return h.stocks(trips, func(int) int { return use })
}

// lasts returns how many hours, from the first one on, leave at least the
// reserve, if the same amount is used in each of them.
func (h hut) lasts(trips []api.Trip, use int) int {
	for hour, stock := range h.always(trips, use) {
		if stock < h.Store.Reserve {
			return hour
		}
	}
	return h.hours
}

// fits reports whether there always is room for what some trips bring. It must be
// there before anything is used in the hour.
func (h hut) fits(trips []api.Trip) bool {
	least := h.Store.Use.Low
	for _, stock := range h.always(trips, least) {
		if stock+least > h.Store.Room {
			return false
		}
	}
	return true
}

// holds reports whether there is room for all that was brought up to some hour,
// however little was used before, and enough is left after this hour, however
// much is used.
func (h hut) holds(hour, brought int) bool {
	all, use := h.Store.Stock+brought, h.Store.Use
	return all-hour*use.Low <= h.Store.Room && all-(hour+1)*use.High >= h.Store.Reserve
}
