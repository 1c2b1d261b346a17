package weather

import "bivouac/api"

// windows is an outlook in which as many consecutive hours as length tells, all
// of which keep the limits, are asked for.
type windows struct {
	outlook
	limits
	length int
}

// next returns the first hour, not before another one, at which a window begins
// in a scenario; if there is none, the number of hours, which is later than all.
func (w windows) next(s api.Scenario, from int, kept keeping) int {
	keeps := func(h api.Hour) bool { return kept(w.limits, h) }
	for hour := from; hour+w.length <= w.hours; hour++ {
		if all(s.Hours[hour:hour+w.length], keeps) {
			return hour
		}
	}
	return w.hours
}

// soonest returns the first hour at which a window begins in some weather.
func (w windows) soonest() int {
	hour := w.hours
	for _, s := range w.scenarios {
		hour = min(hour, w.next(s, 0, limits.maybe))
	}
	return hour
}

// latest returns the hour by which a window has begun in each weather. In the
// worst weather of a scenario no hour keeps the limits but those that surely do.
func (w windows) latest() int {
	hour := 0
	for _, s := range w.scenarios {
		hour = max(hour, w.next(s, 0, limits.surely))
	}
	return hour
}

// gap returns how many consecutive hours can be without a whole window: from any
// hour on these are all but the last one of the next window.
func (w windows) gap() int {
	most := 0
	for _, s := range w.scenarios {
		for from := range w.hours {
			end := min(w.next(s, from, limits.surely)+w.length-1, w.hours)
			most = max(most, end-from)
		}
	}
	return most
}

// orNone returns an hour, or -1 if it is none of the forecast.
func (w windows) orNone(hour int) int {
	if hour == w.hours {
		return -1
	}
	return hour
}
