package beds

import (
	"slices"

	"bivouac/api"
)

func validChain(c api.Chain) bool {
	invalid := func(h api.Hut) bool {
		return !isWithin(h.Beds, 0, api.MaxBeds) || !isWithin(h.Emergency, 0, api.MaxBeds)
	}
	return isWithin(len(c.Huts), 1, api.MaxHuts) && isWithin(c.Nights, 1, api.MaxNights) &&
		!slices.ContainsFunc(c.Huts, invalid)
}

// validMessages checks messages for a chain that is valid.
func validMessages(c api.Chain, l []api.Message) bool {
	invalid := func(m api.Message) bool { return !validMessage(c, m) }
	return len(l) <= api.MaxMessages && !slices.ContainsFunc(l, invalid)
}

func validMessage(c api.Chain, m api.Message) bool {
	if !isWithin(m.Id, 0, api.MaxBooking) {
		return false
	}
	switch m.Kind {
	case api.Request:
		return isWithin(m.Stamp, 0, api.MaxStamp) && isWithin(m.People, 1, api.MaxBeds) && validStays(c, m.Stays)
	case api.Cancel:
		return m.Stamp == 0 && m.People == 0 && len(m.Stays) == 0
	}
	return false
}

func validStays(c api.Chain, stays []api.Stay) bool {
	if !isWithin(len(stays), 1, api.MaxStays) {
		return false
	}
	free := 0 // the first night after the stays so far
	for _, s := range stays {
		if !isHut(c, s.Hut) || s.Nights.Low < free || s.Nights.High < s.Nights.Low || !isNight(c, s.Nights.High) {
			return false
		}
		free = s.Nights.High + 1
	}
	return true
}

func isHut(c api.Chain, hut int) bool { return isWithin(hut, 0, len(c.Huts)-1) }

func isNight(c api.Chain, night int) bool { return isWithin(night, 0, c.Nights-1) }

func isWithin(x, low, high int) bool { return low <= x && x <= high }
