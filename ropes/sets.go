package ropes

import "math/bits"

// set is a set of numbers of elements: its bit i is 1 if it contains i.
type set int

func (s set) size() int { return bits.OnesCount(uint(s)) }

func (s set) has(i int) bool { return s>>i&1 == 1 }

// numbers returns the elements of a set, in ascending order.
func (s set) numbers() []int {
	var numbers []int
	for i := range bits.Len(uint(s)) {
		if s.has(i) {
			numbers = append(numbers, i)
		}
	}
	return numbers
}

// isBefore reports whether a set has fewer elements than another one; or as many, but,
// of the elements in ascending order, the lower one at the first position at which
// they differ.
func (s set) isBefore(other set) bool {
	if s.size() != other.size() {
		return s.size() < other.size()
	}
	differing := s ^ other
	return s&differing&-differing != 0
}

// fewest returns the first one, by isBefore, of the sets of elements that are enough,
// as told from those that are chosen and the others.
func fewest[T any](elements []T, isEnough func(chosen, others []T) bool) (set, bool) {
	best, found := set(0), false
	for number := range 1 << len(elements) {
		s := set(number)
		if (!found || s.isBefore(best)) && isEnough(split(elements, s)) {
			best, found = s, true
		}
	}
	return best, found
}

// split returns the elements that a set chooses, and the others.
func split[T any](elements []T, s set) (chosen, others []T) {
	for i, x := range elements {
		if s.has(i) {
			chosen = append(chosen, x)
		} else {
			others = append(others, x)
		}
	}
	return chosen, others
}

// keep returns the elements of which something is true.
func keep[T any](elements []T, is func(x T) bool) []T {
	var kept []T
	for _, x := range elements {
		if is(x) {
			kept = append(kept, x)
		}
	}
	return kept
}
