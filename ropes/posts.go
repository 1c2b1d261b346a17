package ropes

import "bivouac/api"

// isLevel reports whether the tilt of no two posts can exceed a limit after some years.
func isLevel(posts []api.Post, limit, years int) bool {
	for i, right := range posts {
		for _, left := range posts[:i] {
			if 1000*years*apart(left, right) > limit*(right.At-left.At) {
				return false
			}
		}
	}
	return true
}

// apart returns by how many millimetres more one of two posts can sink in a year than
// the other one.
func apart(a, b api.Post) int { return max(a.Sink.High-b.Sink.Low, b.Sink.High-a.Sink.Low) }
