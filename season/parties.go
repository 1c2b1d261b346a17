package season

import (
	"slices"

	"bivouac/api"
	"bivouac/missing"
)

// goOut enters that a party goes out.
func (w *warden) goOut(n []int) string {
	id, place, grade, start, rest := n[0], n[1], n[2], n[3], n[4]
	party := api.Party{Grade: grade, Pace: api.Span{Low: 100, High: 100}}
	x := api.Missed{Party: party, Place: place, Start: start, Rest: rest, Now: start}
	_, isOut := w.out(id)
	if !isWithin(id, 0, api.MaxBooking) || isOut || len(w.Gone) == api.MaxGone || !w.isMissed(x) {
		return refused
	}
	after := w.Register
	after.Gone = with(w.Gone, api.Gone{Id: id, Missed: x})
	w.change(after)
	return done
}

// sighting returns what enters that a party was seen at a place, or that it was not.
func sighting(seen bool) func(w *warden, n []int) string {
	return func(w *warden, n []int) string {
		minute, place := n[1], n[2]
		i, ok := w.out(n[0])
		if !ok || !isWithin(place, 0, w.Net.Places-1) {
			return refused
		}
		g := w.Gone[i]
		g.Missed.Clues = with(g.Missed.Clues, api.Clue{Minute: minute, Places: 1 << place, Seen: seen})
		// Just where tells what is now; until then a clue can be of any minute.
		if !w.isMissed(asOf(g, api.MaxMinute)) {
			return refused
		}
		w.changeGone(i, g)
		return done
	}
}

// back enters that a party is back.
func (w *warden) back(n []int) string {
	i, ok := w.out(n[0])
	if !ok {
		return refused
	}
	g := w.Gone[i]
	g.Back = true
	w.changeGone(i, g)
	return done
}

// where tells where a party can be at a minute, or which clues contradict each other.
func (w *warden) where(n []int) string {
	i, ok := w.out(n[0])
	if !ok {
		return refused
	}
	x := asOf(w.Gone[i], n[1])
	places, ways, e := missing.Where(w.Net, x)
	switch e {
	case api.OK:
		return say(places, "-", ways)
	case api.ErrNone:
		clues, _ := missing.Conflict(w.Net, x)
		return say(against, clues)
	}
	return refused
}

// out returns the position of the party with an Id that is out.
func (w *warden) out(id int) (int, bool) {
	i := slices.IndexFunc(w.Gone, func(g api.Gone) bool { return g.Id == id && !g.Back })
	return i, i >= 0
}

func (w *warden) isMissed(x api.Missed) bool { return missing.Check(w.Net, x) == api.OK }

// asOf returns what is known of a party if it is a minute now.
func asOf(g api.Gone, minute int) api.Missed {
	x := g.Missed
	x.Now = minute
	return x
}

func (w *warden) changeGone(i int, g api.Gone) {
	after := w.Register
	after.Gone = replaced(w.Gone, i, g)
	w.change(after)
}
