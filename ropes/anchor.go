package ropes

import "bivouac/api"

func low(s api.Span) int { return s.Low }

func high(s api.Span) int { return s.High }

// holds reports whether points hold a load if each of them has the strength at one end
// of its span.
func holds(points []api.Span, load int, strength func(s api.Span) int) bool {
	left := points
	for {
		unbroken := keep(left, func(p api.Span) bool { return len(left)*strength(p) >= load })
		if len(unbroken) == len(left) {
			return len(left) > 0
		}
		left = unbroken
	}
}

// spareOf returns how many points can be missing, whichever they are; -1 if not even
// none can. As an anchor that holds holds with one more point, too, that is one less
// than the fewest points without which it does not hold.
func spareOf(points []api.Span, load int) int {
	// Without all of them nothing holds, so that some set always is too much.
	missing, _ := fewest(points, func(_, rest []api.Span) bool { return !holds(rest, load, low) })
	return missing.size() - 1
}
