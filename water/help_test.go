package water_test

import (
	"math/rand"
	"slices"
	"testing"

	"bivouac/api"
	"bivouac/water"
)

func spring(low, high, fuel int) api.Spring {
	return api.Spring{Yield: api.Span{Low: low, High: high}, Fuel: fuel}
}

func clean(mix int) api.Sample { return api.Sample{Mix: mix} }

func foul(mix int) api.Sample { return api.Sample{Mix: mix, Foul: true} }

// exampleW is the water W of the chapter.
func exampleW() api.Water {
	return api.Water{
		Springs: []api.Spring{spring(10, 20, 4), spring(30, 30, 9), spring(5, 50, 2)},
		Most:    1, Misses: 1, Alarms: 0,
		Samples: []api.Sample{clean(3), clean(3), clean(4)},
	}
}

func exampleV() api.Water { return with(exampleW(), foul(6)) }

func exampleU() api.Water { return with(exampleV(), clean(4)) }

// springs returns water of some springs without samples.
func springs(count, most int) api.Water {
	return api.Water{Springs: make([]api.Spring, count), Most: most}
}

// wrong returns water whose samples may be wrong so often.
func wrong(w api.Water, misses, alarms int) api.Water {
	w.Misses, w.Alarms = misses, alarms
	return w
}

// with returns a copy of water with more samples.
func with(w api.Water, more ...api.Sample) api.Water {
	w = copyWater(w)
	w.Samples = append(w.Samples, more...)
	return w
}

// only returns a copy of water with some of its samples.
func only(w api.Water, numbers []int) api.Water {
	samples := w.Samples
	w.Samples = nil
	for _, i := range numbers {
		w.Samples = append(w.Samples, samples[i])
	}
	return w
}

func copyWater(w api.Water) api.Water {
	w.Springs, w.Samples = slices.Clone(w.Springs), slices.Clone(w.Samples)
	return w
}

// numbers returns the numbers from 0 to below a count.
func numbers(count int) []int {
	var l []int
	for i := range count {
		l = append(l, i)
	}
	return l
}

// except returns a list without one of its numbers.
func except(l []int, x int) []int {
	return slices.DeleteFunc(slices.Clone(l), func(y int) bool { return y == x })
}

// elements returns the elements of a set, bit by bit.
func elements(set int) []int {
	var l []int
	for i := 0; set > 0; i++ {
		if set%2 == 1 {
			l = append(l, i)
		}
		set /= 2
	}
	return l
}

// setOf is the opposite of elements.
func setOf(l []int) int {
	set := 0
	for _, i := range l {
		power := 1
		for range i {
			power *= 2
		}
		set += power
	}
	return set
}

// disjoint reports whether no spring is in both sets.
func disjoint(a, b int) bool {
	return !slices.ContainsFunc(elements(a), func(i int) bool { return slices.Contains(elements(b), i) })
}

// sets returns the number of sets of the springs of the water.
func sets(w api.Water) int { return setOf(numbers(len(w.Springs))) + 1 }

// isPossible tells by the definition whether a truth is possible.
func isPossible(w api.Water, truth int) bool {
	misses, alarms := 0, 0
	for _, s := range w.Samples {
		if !s.Foul && !disjoint(s.Mix, truth) {
			misses++
		}
		if s.Foul && disjoint(s.Mix, truth) {
			alarms++
		}
	}
	return len(elements(truth)) <= w.Most && misses <= w.Misses && alarms <= w.Alarms
}

// truthsOf returns the truths that are possible by the definition.
func truthsOf(w api.Water) []int {
	var truths []int
	for truth := range sets(w) {
		if isPossible(w, truth) {
			truths = append(truths, truth)
		}
	}
	return truths
}

// remain returns the truths that remain after a laboratory test of a mix that
// finds it clean, and after one that does not.
func remain(truths []int, mix int) (clean, foul []int) {
	for _, truth := range truths {
		if disjoint(truth, mix) {
			clean = append(clean, truth)
		} else {
			foul = append(foul, truth)
		}
	}
	return clean, foul
}

// settledWithin tells by trying all plans whether one settles the truth within
// so many tests.
func settledWithin(truths []int, mixes, tests int) bool {
	if len(truths) <= 1 {
		return true
	}
	for mix := 1; mix < mixes && tests > 0; mix++ {
		clean, foul := remain(truths, mix)
		if len(clean) > 0 && len(foul) > 0 && settledWithin(clean, mixes, tests-1) && settledWithin(foul, mixes, tests-1) {
			return true
		}
	}
	return false
}

// roundsOf returns the least number of tests that settle the truth.
func roundsOf(w api.Water, truths []int) int {
	tests := 0
	for !settledWithin(truths, sets(w), tests) {
		tests++
	}
	return tests
}

// randomMix returns one spring, or any springs.
func randomMix(r *rand.Rand, w api.Water) int {
	if r.Intn(2) == 0 {
		return setOf([]int{r.Intn(len(w.Springs))})
	}
	return 1 + r.Intn(sets(w)-1)
}

// randomTruth returns a set of at most Most springs.
func randomTruth(r *rand.Rand, w api.Water) int {
	order := r.Perm(len(w.Springs))
	return setOf(order[:r.Intn(min(w.Most, len(order))+1)])
}

// sampled returns water with samples of which at most as many as told are wrong
// in a truth.
func sampled(r *rand.Rand, w api.Water, truth, count int) api.Water {
	misses, alarms := r.Intn(w.Misses+1), r.Intn(w.Alarms+1)
	for range count {
		s := api.Sample{Mix: randomMix(r, w)}
		s.Foul = !disjoint(s.Mix, truth)
		if s.Foul && misses > 0 && r.Intn(2) == 0 {
			s.Foul = false
			misses--
		} else if !s.Foul && alarms > 0 && r.Intn(2) == 0 {
			s.Foul = true
			alarms--
		}
		w.Samples = append(w.Samples, s)
	}
	return w
}

// randomWater returns water of at most so many springs, which often are alike.
func randomWater(r *rand.Rand, count int) api.Water {
	var w api.Water
	for range 1 + r.Intn(count) {
		low := 5 * r.Intn(5)
		w.Springs = append(w.Springs, spring(low, low+r.Intn(3)*r.Intn(10), r.Intn(4)))
	}
	w.Most = min(r.Intn(len(w.Springs)+2), api.MaxSprings)
	w.Misses, w.Alarms = r.Intn(3), r.Intn(3)
	if r.Intn(3) == 0 {
		w.Misses, w.Alarms = 0, 0
	}
	return w
}

// eachCase calls visit for random water of at most so many springs. Mostly some
// truth is possible.
func eachCase(t *testing.T, seed int64, cases, count int, visit func(r *rand.Rand, w api.Water)) {
	t.Helper()
	r := rand.New(rand.NewSource(seed))
	for i := range cases {
		w := randomWater(r, count)
		w = sampled(r, w, randomTruth(r, w), r.Intn(8))
		for range r.Intn(3) * r.Intn(2) {
			w.Samples = append(w.Samples, api.Sample{Mix: randomMix(r, w), Foul: r.Intn(2) == 0})
		}
		visit(r, w)
		if t.Failed() {
			t.Fatalf("case %d: %+v", i, w)
		}
	}
}

// eachPossible is eachCase without the water for which no truth is possible.
func eachPossible(t *testing.T, seed int64, cases, count int, visit func(r *rand.Rand, w api.Water, truths []int)) {
	t.Helper()
	possible := 0
	eachCase(t, seed, cases, count, func(r *rand.Rand, w api.Water) {
		if truths := truthsOf(w); len(truths) > 0 {
			possible++
			visit(r, w, truths)
		}
	})
	if possible < cases/2 {
		t.Errorf("just %d cases with a possible truth", possible)
	}
}

// truths returns what Truths returns; none if no truth is possible.
func truths(t *testing.T, w api.Water) []int {
	t.Helper()
	l, e := water.Truths(w)
	if e != api.OK && (e != api.ErrNone || len(l) > 0) {
		t.Fatalf("Truths of %+v = %v, %d", w, l, e)
	}
	return l
}

// isSubset reports whether all elements of a list are in another one.
func isSubset(a, b []int) bool {
	return !slices.ContainsFunc(a, func(x int) bool { return !slices.Contains(b, x) })
}
