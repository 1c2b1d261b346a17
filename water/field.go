package water

import (
	"cmp"

	"bivouac/api"
)

// field is water that has been checked, with the truths that are possible: sets
// of foul springs in ascending order.
type field struct {
	api.Water
	truths []set
}

// batch is water of a set of springs: the litres that they surely yield, and the
// fuel to treat it.
type batch struct {
	set
	litres, fuel int
}

func (f field) springs() set { return first(len(f.Springs)) }

func (f field) samples() set { return first(len(f.Samples)) }

// possible returns the truths that some of the samples leave possible.
func (f field) possible(samples set) []set {
	var truths []set
	for truth := range f.springs().subsets {
		if truth.size() <= f.Most && f.allows(samples, truth) {
			truths = append(truths, truth)
		}
	}
	return truths
}

// allows reports whether no more of some samples than may be are wrong in a
// truth.
func (f field) allows(samples, truth set) bool {
	misses, alarms := 0, 0
	for number := range samples.elements {
		sample := f.Samples[number]
		isFoul := truth.meets(set(sample.Mix))
		switch {
		case isFoul && !sample.Foul:
			misses++
		case !isFoul && sample.Foul:
			alarms++
		}
	}
	return misses <= f.Misses && alarms <= f.Alarms
}

// surelyClean returns the springs that are clean in all possible truths.
func (f field) surelyClean() set {
	clean := f.springs()
	for _, truth := range f.truths {
		clean &^= truth
	}
	return clean
}

// maybeClean returns the springs that are clean in some possible truth.
func (f field) maybeClean() set {
	foul := f.springs()
	for _, truth := range f.truths {
		foul &= truth
	}
	return f.springs() &^ foul
}

// cleanIn counts the possible truths in which a mix is clean.
func (f field) cleanIn(mix set) int {
	count := 0
	for _, truth := range f.truths {
		if !mix.meets(truth) {
			count++
		}
	}
	return count
}

// contradicting returns samples for which no truth is possible, but is without
// any one of them; none if some truth is possible for all samples.
func (f field) contradicting() set {
	kept := f.samples()
	if len(f.possible(kept)) > 0 {
		return 0
	}
	for number := range f.samples().elements {
		others := kept &^ (1 << number)
		if len(f.possible(others)) == 0 {
			kept = others
		}
	}
	return kept
}

func (f field) batch(springs set) batch {
	b := batch{set: springs}
	for spring := range b.elements {
		b.litres += f.Springs[spring].Yield.Low
		b.fuel += f.Springs[spring].Fuel
	}
	return b
}

// cheapest returns the batch of some springs that is enough and takes the least
// fuel, of several the one of the fewest springs, and then of the lowest number.
func (f field) cheapest(springs set, isEnough func(b batch) bool) (batch, bool) {
	var best batch
	found := false
	for part := range springs.subsets {
		b := f.batch(part)
		if isEnough(b) && (!found || b.isCheaper(best)) {
			best, found = b, true
		}
	}
	return best, found
}

func (b batch) isCheaper(other batch) bool {
	return cmp.Or(cmp.Compare(b.fuel, other.fuel), cmp.Compare(b.size(), other.size())) < 0
}
