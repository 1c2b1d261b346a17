package water

import (
	"slices"

	"bivouac/api"
)

func validWater(w api.Water) bool {
	invalid := func(s api.Spring) bool { return !validSpring(s) }
	return isWithin(len(w.Springs), 1, api.MaxSprings) && !slices.ContainsFunc(w.Springs, invalid) &&
		isWithin(w.Most, 0, api.MaxSprings) &&
		isWithin(w.Misses, 0, api.MaxWrong) && isWithin(w.Alarms, 0, api.MaxWrong) &&
		validSamples(w)
}

func validSpring(s api.Spring) bool {
	return 0 <= s.Yield.Low && s.Yield.Low <= s.Yield.High && s.Yield.High <= api.MaxYield &&
		isWithin(s.Fuel, 0, api.MaxFuel)
}

// validSamples checks samples for springs that are not too many.
func validSamples(w api.Water) bool {
	invalid := func(s api.Sample) bool { return !isMix(w, s.Mix) }
	return len(w.Samples) <= api.MaxSamples && !slices.ContainsFunc(w.Samples, invalid)
}

// isMix reports whether a number is a set of some springs of the water.
func isMix(w api.Water, mix int) bool { return isWithin(mix, 1, int(first(len(w.Springs)))) }

func isWithin(x, low, high int) bool { return low <= x && x <= high }
