package season

import (
	"bivouac/api"
	"bivouac/water"
)

// tested returns the water with some samples.
func (w *warden) tested(samples []api.Sample) api.Water {
	field := w.Water
	field.Samples = samples
	return field
}

// sample enters a test, unless it contradicts others.
func (w *warden) sample(n []int) string {
	after := w.Register
	after.Samples = with(w.Samples, api.Sample{Mix: n[0], Foul: n[1] == 1})
	field := w.tested(after.Samples)
	if !isWithin(n[1], 0, 1) || water.Check(field) != api.OK {
		return refused
	}
	if samples, e := water.Conflict(field); e == api.OK {
		// A truth is possible with the samples of the register alone, so the new one is
		// among those that contradict each other, and is the last of them.
		return say(against, samples[:len(samples)-1])
	}
	w.change(after)
	return done
}

// clean tells which springs are clean. A truth is always possible.
func (w *warden) clean([]int) string {
	sure, may, _ := water.Clean(w.tested(w.Samples))
	return say(sure, may)
}

// serve tells which water is served, and which is treated.
func (w *warden) serve(n []int) string {
	plain, treated, fuel, e := water.Serve(w.tested(w.Samples), n[0])
	switch e {
	case api.OK:
		return say(plain, treated, fuel)
	case api.ErrNone:
		return nothing
	}
	return refused
}
