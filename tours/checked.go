package tours

import (
	"iter"
	"slices"

	"bivouac/api"
	"bivouac/paths"
)

// checked is a tour that has been checked. The functions of lower layers that
// are called with parts of it return no errors.
type checked struct {
	api.Tour
	own []api.Stay // for which the party surely has the beds that it booked
}

// day is a day of an itinerary: from where it should lead to where, and the hut
// of the night that follows.
type day struct{ number, from, to, hut int }

// noHut stands for the hut after the last day of an itinerary.
const noHut = -1

// days yields the days of an itinerary, with the one after the last night.
func (c checked) days(huts []int) iter.Seq[day] {
	return func(yield func(day) bool) {
		place := c.From
		for number, hut := range huts {
			if !yield(day{number, place, c.Places[hut], hut}) {
				return
			}
			place = c.Places[hut]
		}
		yield(day{len(huts), place, c.To, noHut})
	}
}

// unsound returns the first day of an itinerary that does not lead where it
// should, or after which no bed is sure; -1 if there is none.
func (c checked) unsound(huts []int) int {
	for d := range c.days(huts) {
		if !c.leads(d.from, d.to) || d.hut != noHut && !c.hasBed(d.hut, d.number) {
			return d.number
		}
	}
	return -1
}

// reached returns the places to which a day leads from a place.
func (c checked) reached(from int) []int {
	sure, _, _ := paths.Within(c.Net, c.Party, from, c.Start, c.Dusk)
	return sure
}

func (c checked) leads(from, to int) bool { return slices.Contains(c.reached(from), to) }

// arrival returns the sure arrival of a day that leads from a place to another
// one.
func (c checked) arrival(from, to int) int {
	sure, _, _ := paths.Arrive(c.Net, c.Party, from, c.Start)
	return sure[to]
}

// latest returns how late the party can start on a day that leads where it
// should.
func (c checked) latest(d day) int {
	minute, _ := paths.Latest(c.Net, c.Party, d.from, d.to, c.Dusk)
	return minute
}

// escape returns the lowest place to which the party can go if the hut of a day
// that leads there is closed; or -1.
func (c checked) escape(d day) int {
	sure, _, _ := paths.Within(c.Net, c.Party, d.to, c.arrival(d.from, d.to), c.Late)
	takesIn := func(place int) bool { return c.takesIn(place, d) }
	if i := slices.IndexFunc(sure, takesIn); i >= 0 {
		return sure[i]
	}
	return -1
}

// takesIn reports whether a place is a village, or has a hut with a sure bed
// that is another one than that of a day.
func (c checked) takesIn(place int, d day) bool {
	hut := slices.Index(c.Places, place)
	return slices.Contains(c.Villages, place) ||
		hut >= 0 && hut != d.hut && c.hasBed(hut, d.number)
}
