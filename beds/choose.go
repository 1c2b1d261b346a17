package beds

import (
	"cmp"
	"slices"
)

// choose goes through all choices of some elements, element by element, and
// returns the best one: the fewest elements, in ascending order, with the lower
// one at the first difference.
//
// follow tells which state follows a state if the element i is chosen or is
// not, and whether it can be so. worth tells whether a choice of count elements
// before the element i, which has led to a state, is worth going on with. As
// nothing later depends on a choice but by its state, only the best one of those
// that lead to a state is kept: it remains the best one whatever is added.
func choose[E cmp.Ordered, S comparable](elements []E, start S, follow func(state S, i int, chosen bool) (S, bool), worth func(state S, i, count int) bool) ([]E, bool) {
	states := map[S][]E{start: nil}
	for i, x := range elements {
		next := map[S][]E{}
		add := func(state S, choice []E) {
			old, known := next[state]
			if known && !better(choice, old) || !known && !worth(state, i+1, len(choice)) {
				return
			}
			next[state] = choice
		}
		for state, choice := range states {
			if s, ok := follow(state, i, false); ok {
				add(s, choice)
			}
			if s, ok := follow(state, i, true); ok {
				add(s, with(choice, x))
			}
		}
		states = next
	}
	return bestOf(states)
}

func bestOf[E cmp.Ordered, S comparable](states map[S][]E) ([]E, bool) {
	var best []E
	found := false
	for _, choice := range states {
		if !found || better(choice, best) {
			best, found = choice, true
		}
	}
	return best, found
}

// better reports whether a choice is better than another one.
func better[E cmp.Ordered](a, b []E) bool {
	if len(a) != len(b) {
		return len(a) < len(b)
	}
	return slices.Compare(a, b) < 0
}

// with returns a choice with one more element.
func with[E cmp.Ordered](choice []E, x E) []E {
	i, _ := slices.BinarySearch(choice, x)
	return slices.Insert(slices.Clone(choice), i, x)
}
