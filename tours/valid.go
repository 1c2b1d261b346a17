package tours

import (
	"slices"

	"bivouac/api"
)

// validTour checks what only tours have; the net, the party, the chain and the
// messages must be valid.
func validTour(c checked) bool {
	return validPlaces(c) && validVillages(c) && c.isPlace(c.From) && c.isPlace(c.To) &&
		isWithin(c.People, 1, api.MaxBeds) && isWithin(c.Strangers, 0, api.MaxStrangers) &&
		0 <= c.Start && c.Start <= c.Dusk && c.Dusk <= c.Late && c.Late <= api.MaxMinute &&
		isWithin(c.Id, -1, api.MaxBooking)
}

// validPlaces reports whether each hut has a place of its own.
func validPlaces(c checked) bool {
	if len(c.Places) != len(c.Chain.Huts) {
		return false
	}
	for hut, place := range c.Places {
		if !c.isPlace(place) || slices.Contains(c.Places[:hut], place) {
			return false
		}
	}
	return true
}

func validVillages(c checked) bool {
	last := -1
	for _, place := range c.Villages {
		if place <= last || !c.isPlace(place) {
			return false
		}
		last = place
	}
	return true
}

func (c checked) isPlace(place int) bool { return isWithin(place, 0, c.Net.Places-1) }

func (c checked) isHut(hut int) bool { return isWithin(hut, 0, len(c.Chain.Huts)-1) }

func (c checked) isNight(night int) bool { return isWithin(night, 0, c.Chain.Nights-1) }

// isItinerary reports whether some huts are an itinerary, be it sound or not.
func (c checked) isItinerary(huts []int) bool {
	noHut := func(hut int) bool { return !c.isHut(hut) }
	return len(huts) <= c.Chain.Nights && !slices.ContainsFunc(huts, noHut)
}

// isTaken reports whether some message has an Id, be it a request or not.
func (c checked) isTaken(id int) bool {
	return slices.ContainsFunc(c.Messages, func(m api.Message) bool { return m.Id == id })
}

func isWithin(x, low, high int) bool { return low <= x && x <= high }
