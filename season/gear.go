package season

import (
	"bivouac/api"
	"bivouac/ropes"
)

// unused is the day of the first use of a rope that has not been used.
const unused = -1

// rope enters a new rope.
func (w *warden) rope(n []int) string {
	r := api.Rope{Made: w.Day, First: unused, Length: n[0]}
	if len(w.Ropes) == api.MaxRopes || !w.isRope(r) {
		return refused
	}
	number := len(w.Ropes)
	after := w.Register
	after.Ropes = with(w.Ropes, r)
	w.change(after)
	return say("rope", number)
}

// use enters that a rope is used today, if it surely is fit.
func (w *warden) use(n []int) string {
	number := n[0]
	if !w.hasRope(number) {
		return refused
	}
	r := w.Ropes[number]
	if sure, _ := w.fitness(r); !sure {
		return "unfit"
	}
	if r.First == unused {
		r.First = w.Day
		w.changeRope(number, r)
	}
	return done
}

// fall enters a fall of today.
func (w *warden) fall(n []int) string {
	number := n[0]
	if !w.hasRope(number) {
		return refused
	}
	r := w.Ropes[number]
	height, out := api.Span{Low: n[1], High: n[2]}, api.Span{Low: n[3], High: n[3]}
	r.Falls = with(r.Falls, api.Fall{Day: w.Day, Height: height, Out: out})
	// A rope that has not been used is not valid with a fall, nor one with too many.
	if !w.isRope(r) {
		return refused
	}
	w.changeRope(number, r)
	return done
}

// fit tells whether a rope is fit today.
func (w *warden) fit(n []int) string {
	if !w.hasRope(n[0]) {
		return refused
	}
	switch sure, may := w.fitness(w.Ropes[n[0]]); {
	case sure:
		return "sure"
	case may:
		return "maybe"
	}
	return "unfit"
}

func (w *warden) hasRope(number int) bool { return isWithin(number, 0, len(w.Ropes)-1) }

// isRope reports whether a rope is valid, of which Until tells.
func (w *warden) isRope(r api.Rope) bool {
	_, e := ropes.Until(w.Model, r)
	return e == api.OK
}

// fitness reports whether a rope of the register surely is fit today, and whether it may
// be. There is no error, as no rope was made later.
func (w *warden) fitness(r api.Rope) (sure, may bool) {
	sure, may, _ = ropes.Fit(w.Model, r, w.Day)
	return sure, may
}

func (w *warden) changeRope(number int, r api.Rope) {
	after := w.Register
	after.Ropes = replaced(w.Ropes, number, r)
	w.change(after)
}
