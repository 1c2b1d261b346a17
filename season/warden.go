package season

import (
	"slices"

	"bivouac/api"
	"bivouac/beds"
	"bivouac/paths"
	"bivouac/ropes"
	"bivouac/water"
)

// warden keeps the books of a season that has been checked. A register on a stack can
// share memory with the current one, so a change replaces what it changes.
type warden struct {
	api.Season
	api.Register
	former, undone []api.Register // stacks, the last one on top
}

// change makes another register the current one. It must differ from the one before.
func (w *warden) change(after api.Register) {
	w.former, w.undone = append(w.former, w.Register), nil
	w.Register = after
}

// day begins a day.
func (w *warden) day(n []int) string {
	day := n[0]
	if !isWithin(day, w.Day, w.Chain.Nights-1) {
		return refused
	}
	if day > w.Day {
		after := w.Register
		after.Day = day
		w.change(after)
	}
	return done
}

// undo goes back to the register before the last change.
func (w *warden) undo([]int) string { return w.turn(&w.former, &w.undone) }

// redo takes back an undo.
func (w *warden) redo([]int) string { return w.turn(&w.undone, &w.former) }

// turn takes the register from one stack, and puts the current one on the other.
func (w *warden) turn(from, to *[]api.Register) string {
	last := len(*from) - 1
	if last < 0 {
		return refused
	}
	*to = append(*to, w.Register)
	w.Register, *from = (*from)[last], (*from)[:last]
	return done
}

func isSeason(x api.Season) bool {
	// Without ropes, guides and clients just the model can make an outing invalid.
	outing := api.Outing{Grade: 1, Spacing: 1, Model: x.Model}
	return paths.Check(x.Net) == api.OK && beds.Check(x.Chain, nil) == api.OK &&
		water.Check(x.Water) == api.OK && len(x.Water.Samples) == 0 && ropes.Check(outing) == api.OK
}

// with returns a list with one more element, in new memory.
func with[T any](list []T, x T) []T { return append(slices.Clip(list), x) }

// replaced returns a list with another element at a position, in new memory.
func replaced[T any](list []T, i int, x T) []T {
	list = slices.Clone(list)
	list[i] = x
	return list
}

func isWithin(x, low, high int) bool { return low <= x && x <= high }
