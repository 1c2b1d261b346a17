package water

import "math/bits"

// set is a set of small numbers, of springs, samples or truths: its bit i is 1
// if it contains i.
type set uint

// first returns the set of the first count numbers.
func first(count int) set { return 1<<count - 1 }

func (s set) size() int { return bits.OnesCount(uint(s)) }

func (s set) meets(other set) bool { return s&other != 0 }

// elements yields the numbers in a set in ascending order.
func (s set) elements(yield func(i int) bool) {
	for ; s != 0; s &= s - 1 {
		if !yield(bits.TrailingZeros(uint(s))) {
			return
		}
	}
}

// subsets yields all sets of some elements of a set in ascending order, from the
// empty one on.
func (s set) subsets(yield func(part set) bool) {
	part := set(0)
	// Below the lowest element that is not in the part the difference borrows, so
	// that this element comes in and the lower ones go.
	for yield(part) && part != s {
		part = (part - s) & s
	}
}
