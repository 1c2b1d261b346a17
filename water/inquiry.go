package water

import (
	"math/bits"
	"slices"
)

// inquiry is the search for the least number of tests after which only one of a
// group of truths remains. A group is a set of numbers of truths.
type inquiry struct {
	clean []set       // groups of the truths in which some mix is clean, each once
	known map[set]int // how many tests a group needs
}

// newInquiry begins an inquiry about the possible truths, which must not be too
// many for a set.
func newInquiry(f field) inquiry {
	q := inquiry{known: map[set]int{}}
	for mix := range f.springs().subsets {
		var clean set
		for i, truth := range f.truths {
			if !mix.meets(truth) {
				clean |= 1 << i
			}
		}
		q.clean = append(q.clean, clean)
	}
	slices.Sort(q.clean)
	q.clean = slices.Compact(q.clean)
	return q
}

// tests returns the least number of tests that settle which truth of a group
// holds, whichever it is.
func (q inquiry) tests(group set) int {
	if count, ok := q.known[group]; ok {
		return count
	}
	// Any two truths differ in a spring, so that there always is a test that
	// leaves fewer of them: one test less than there are truths is enough.
	fewest := group.size() - 1
	for _, clean := range q.clean {
		with, without := group&clean, group&^clean
		if with == 0 || without == 0 || 1+max(with.halvings(), without.halvings()) >= fewest {
			continue
		}
		fewest = min(fewest, 1+max(q.tests(with), q.tests(without)))
	}
	q.known[group] = fewest
	return fewest
}

// halvings returns how often a group must be halved until one truth remains. No
// plan of tests needs fewer tests.
func (s set) halvings() int { return bits.Len(uint(s.size() - 1)) }
