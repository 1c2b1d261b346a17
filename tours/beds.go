package tours

import (
	"slices"

	"bivouac/api"
	"bivouac/beds"
)

// The beds of a hut in a night.
const (
	noneSure = iota
	booked
	inBed
	emergencyPlace
)

// ownStays returns the stays of the party's own booking if it is accepted and
// for enough people. Where people are too many for it, they are let in like
// those without a booking.
func ownStays(t api.Tour) []api.Stay {
	accepted, _ := beds.Accepted(t.Chain, t.Messages)
	if !slices.Contains(accepted, t.Id) {
		return nil
	}
	// What is accepted is not cancelled, so that all messages with its Id are the same request.
	i := slices.IndexFunc(t.Messages, func(m api.Message) bool { return m.Id == t.Id })
	if t.Messages[i].People < t.People {
		return nil
	}
	return t.Messages[i].Stays
}

func (c checked) isBooked(hut, night int) bool {
	return slices.ContainsFunc(c.own, func(s api.Stay) bool {
		return s.Hut == hut && isWithin(night, s.Nights.Low, s.Nights.High)
	})
}

// bed returns the bed of a hut in a night. The party comes after the strangers,
// so it has a bed only if all of them have.
func (c checked) bed(hut, night int) int {
	if c.isBooked(hut, night) {
		return booked
	}
	_, emergency, floor, _ := beds.LetIn(c.Chain, c.Messages, hut, night, c.People+c.Strangers)
	switch {
	case floor > 0:
		return noneSure
	case emergency > 0:
		return emergencyPlace
	}
	return inBed
}

func (c checked) hasBed(hut, night int) bool { return c.bed(hut, night) != noneSure }

// hasRoom reports whether a hut has beds for a new booking of the party.
func (c checked) hasRoom(hut, night int) bool {
	left, _ := beds.Left(c.Chain, c.Messages, hut, night)
	return left >= c.People
}

// stamp returns a stamp behind those of all requests, even of the cancelled
// ones; 0 if there are no requests.
func (c checked) stamp() int {
	stamp := 0
	for _, m := range c.Messages {
		if m.Kind == api.Request {
			stamp = max(stamp, m.Stamp+1)
		}
	}
	return stamp
}

// messages returns how many different messages there are, as equal ones count
// once.
func (c checked) messages() int {
	all, _ := beds.Merge(c.Chain, c.Messages, nil)
	return len(all)
}
