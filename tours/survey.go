package tours

import (
	"slices"

	"bivouac/api"
)

// endless is more nights than an itinerary can have.
const endless = api.MaxNights + 1

// survey is a tour of which it is known, for the morning of each day at each
// place, where one may sleep next, and how many nights are still needed.
type survey struct {
	checked
	next  [][][]int // huts in ascending order, by days and places
	ahead [][]int   // the fewest nights, by days and places; endless if nothing leads to To
}

// explore finds out where a tour can go if one may sleep in some huts in some
// nights.
func explore(c checked, maySleep func(hut, night int) bool) survey {
	s := survey{checked: c}
	var reached [][]int
	for place := range c.Net.Places {
		reached = append(reached, c.reached(place))
	}
	for night := range c.Chain.Nights {
		s.next = append(s.next, c.huts(reached, func(hut int) bool { return maySleep(hut, night) }))
	}
	// After the last night there only is the way to To.
	s.next = append(s.next, make([][]int, c.Net.Places))
	s.count(reached)
	return s
}

// huts returns, for each place, the huts to which a day leads and in which one
// may sleep then.
func (c checked) huts(reached [][]int, maySleep func(hut int) bool) [][]int {
	next := make([][]int, c.Net.Places)
	for hut, to := range c.Places {
		if !maySleep(hut) {
			continue
		}
		for from, places := range reached {
			if slices.Contains(places, to) {
				next[from] = append(next[from], hut)
			}
		}
	}
	return next
}

// count finds out how many nights are still needed, from the last day backwards.
func (s *survey) count(reached [][]int) {
	s.ahead = make([][]int, len(s.next))
	for number := len(s.next) - 1; number >= 0; number-- {
		for place, huts := range s.next[number] {
			fewest := endless
			for _, hut := range huts {
				fewest = min(fewest, s.after(hut, number)+1)
			}
			if slices.Contains(reached[place], s.To) {
				fewest = 0
			}
			s.ahead[number] = append(s.ahead[number], fewest)
		}
	}
}

// after returns how many nights are still needed after a night in a hut.
func (s survey) after(hut, night int) int { return s.ahead[night+1][s.Places[hut]] }

// shortest returns the itinerary with the fewest nights, of several the one with
// the lower hut at the first difference.
func (s survey) shortest() ([]int, bool) {
	left, place := s.ahead[0][s.From], s.From
	if left == endless {
		return nil, false
	}
	huts := make([]int, 0, left)
	for night := range left {
		nearer := func(hut int) bool { return s.after(hut, night) == left-night-1 }
		next := s.next[night][place]
		hut := next[slices.IndexFunc(next, nearer)]
		huts = append(huts, hut)
		place = s.Places[hut]
	}
	return huts, true
}

// traps returns the states that can occur and from which nothing leads to To. A
// state that can occur has a way to it, so that a way on would make it part of
// an itinerary.
func (s survey) traps() [][2]int {
	var traps [][2]int
	places := []int{s.From} // where one can be in the morning
	for night := range s.Chain.Nights {
		var evening []int
		for hut, place := range s.Places {
			leads := func(from int) bool { return slices.Contains(s.next[night][from], hut) }
			if !slices.ContainsFunc(places, leads) {
				continue
			}
			evening = append(evening, place)
			if s.after(hut, night) == endless {
				traps = append(traps, [2]int{hut, night})
			}
		}
		places = evening
	}
	return traps
}
