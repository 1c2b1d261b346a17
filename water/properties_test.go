package water_test

import (
	"math/rand"
	"slices"
	"testing"

	"bivouac/api"
	"bivouac/water"
)

// TestP4_2_all: in any water Truths, Clean and Pure are what the definitions
// say. This is P4.3 and P4.4, too.
func TestP4_2_all(t *testing.T) {
	none := 0
	eachCase(t, 2, 400, api.MaxSprings, func(r *rand.Rand, w api.Water) {
		want := truthsOf(w)
		l, e := water.Truths(w)
		if !slices.Equal(l, want) || (e == api.ErrNone) != (len(want) == 0) || e != api.OK && e != api.ErrNone {
			t.Errorf("Truths = %v, %d, want %v", l, e, want)
		}
		if len(want) == 0 {
			none++
			return
		}
		var sure, may []int
		for mix := 1; mix < sets(w); mix++ {
			clean, foul := remain(want, mix)
			if inAll, inSome, e := water.Pure(w, mix); inAll != (len(foul) == 0) || inSome != (len(clean) > 0) || e != api.OK {
				t.Errorf("Pure of %d = %v, %v, %d", mix, inAll, inSome, e)
			}
			if len(elements(mix)) == 1 && len(foul) == 0 {
				sure = append(sure, elements(mix)...)
			}
			if len(elements(mix)) == 1 && len(clean) > 0 {
				may = append(may, elements(mix)...)
			}
		}
		if a, b, e := water.Clean(w); a != setOf(sure) || b != setOf(may) || e != api.OK {
			t.Errorf("Clean = %d, %d, %d, want %v, %v", a, b, e, sure, may)
		}
	})
	if none < 20 {
		t.Errorf("just %d cases without a possible truth", none)
	}
}

// contradicted returns water for whose samples no truth is possible, by adding
// some until there is none.
func contradicted(r *rand.Rand, w api.Water) (api.Water, bool) {
	for len(w.Samples) < api.MaxSamples && len(truthsOf(w)) > 0 {
		w = with(w, api.Sample{Mix: randomMix(r, w), Foul: r.Intn(2) == 0})
	}
	return w, len(truthsOf(w)) == 0
}

// TestP4_5_all: in any water Conflict is what is left if the samples are gone
// through. Without any one of them some truth is possible: this is P4.11, too.
func TestP4_5_all(t *testing.T) {
	found, lengths := 0, map[int]int{}
	eachCase(t, 5, 150, 5, func(r *rand.Rand, w api.Water) {
		if _, e := water.Conflict(w); (e == api.ErrNone) != (len(truthsOf(w)) > 0) {
			t.Errorf("Conflict: %d", e)
		}
		w, ok := contradicted(r, w)
		if !ok {
			return
		}
		found++
		kept := numbers(len(w.Samples))
		for i := range w.Samples {
			if len(truthsOf(only(w, except(kept, i)))) == 0 {
				kept = except(kept, i)
			}
		}
		l, e := water.Conflict(w)
		if !slices.Equal(l, kept) || e != api.OK {
			t.Errorf("Conflict = %v, %d, want %v", l, e, kept)
		}
		lengths[len(l)]++
		if len(truths(t, only(w, l))) > 0 {
			t.Errorf("a truth is possible with the samples %v", l)
		}
		for _, i := range l {
			if len(truths(t, only(w, except(l, i)))) == 0 {
				t.Errorf("no truth is possible without %d of the samples %v", i, l)
			}
		}
	})
	if found < 100 || len(lengths) < 5 {
		t.Errorf("just %d conflicts, of the lengths %v", found, lengths)
	}
}

// amounts returns the litres that a set of springs surely yields, and its fuel.
func amounts(w api.Water, set int) (litres, fuel int) {
	for _, i := range elements(set) {
		litres += w.Springs[i].Yield.Low
		fuel += w.Springs[i].Fuel
	}
	return litres, fuel
}

// served returns what Serve should return, by going through all sets.
func served(w api.Water, truths []int, need int) (plain, treated int, ok bool) {
	var sure []int
	for i := range w.Springs {
		if _, foul := remain(truths, setOf([]int{i})); len(foul) == 0 {
			sure = append(sure, i)
		}
	}
	plain = setOf(sure)
	for set := range sets(w) {
		litres, fuel := amounts(w, set)
		surely, _ := amounts(w, plain)
		if !disjoint(set, plain) || surely+litres < need {
			continue
		}
		_, least := amounts(w, treated)
		fewer := len(elements(set)) < len(elements(treated))
		if !ok || fuel < least || fuel == least && fewer {
			treated, ok = set, true
		}
	}
	return plain, treated, ok
}

// TestP4_6_all: in any water, and for any need, Serve is the best of all sets.
func TestP4_6_all(t *testing.T) {
	sizes := map[int]int{}
	eachPossible(t, 6, 300, 6, func(r *rand.Rand, w api.Water, truths []int) {
		all, _ := amounts(w, sets(w)-1)
		for _, need := range []int{0, r.Intn(all + 1), r.Intn(all + 1), all, all + 1} {
			wantPlain, want, ok := served(w, truths, need)
			plain, treated, fuel, e := water.Serve(w, need)
			if !ok {
				if e != api.ErrNone || plain != 0 || treated != 0 || fuel != 0 {
					t.Errorf("Serve of %d = %d, %d, %d, %d, want none", need, plain, treated, fuel, e)
				}
				continue
			}
			if _, least := amounts(w, want); plain != wantPlain || treated != want || fuel != least || e != api.OK {
				t.Errorf("Serve of %d = %d, %d, %d, %d, want %d, %d", need, plain, treated, fuel, e, wantPlain, want)
			}
			sizes[len(elements(treated))]++
		}
	})
	if min(sizes[0], sizes[1], sizes[2], sizes[3]) < 20 {
		t.Errorf("just so many sets of each size: %v", sizes)
	}
}

// TestP4_7_all: in any water Best is the first mix that leaves the fewest truths
// with the worse result, and no other mix leaves fewer. This is P4.13, too.
func TestP4_7_all(t *testing.T) {
	eachPossible(t, 7, 300, 6, func(r *rand.Rand, w api.Water, truths []int) {
		mix, left, e := water.Best(w)
		if e != api.OK || mix < 1 || mix >= sets(w) {
			t.Fatalf("Best = %d, %d, %d", mix, left, e)
		}
		for other := 1; other < sets(w); other++ {
			clean, foul := remain(truths, other)
			worse := max(len(clean), len(foul))
			if worse < left || worse == left && other < mix || other == mix && worse != left {
				t.Errorf("Best = %d, %d, but %d leaves %d", mix, left, other, worse)
			}
		}
	})
}

// TestP4_8_all: in any water with few springs Rounds is the least number of
// tests of all plans.
func TestP4_8_all(t *testing.T) {
	counts := map[int]int{}
	eachPossible(t, 8, 600, 4, func(r *rand.Rand, w api.Water, truths []int) {
		rounds, e := water.Rounds(w)
		if want := roundsOf(w, truths); rounds != want || e != api.OK {
			t.Errorf("Rounds = %d, %d, want %d", rounds, e, want)
		}
		counts[rounds]++
	})
	if min(counts[0], counts[1], counts[2], counts[3], counts[4]) < 20 {
		t.Errorf("just so many cases with each number of tests: %v", counts)
	}
}

// TestP4_8_foul: where most springs are foul, few tests halve the truths.
func TestP4_8_foul(t *testing.T) {
	r := rand.New(rand.NewSource(81))
	beyond := 0
	for range 300 {
		w := springs(3+r.Intn(2), 3+r.Intn(2))
		for range 2 + r.Intn(5) {
			order := r.Perm(len(w.Springs))
			w.Samples = append(w.Samples, foul(setOf(order[:2])))
		}
		truths := truthsOf(w)
		rounds, e := water.Rounds(w)
		if want := roundsOf(w, truths); rounds != want || e != api.OK {
			t.Errorf("Rounds of %+v = %d, %d, want %d", w, rounds, e, want)
		}
		if 1<<rounds >= 2*len(truths) {
			beyond++
		}
	}
	if beyond < 50 {
		t.Errorf("just %d cases with more tests than halving takes", beyond)
	}
}

// TestP4_8_many: ErrMany exactly if there are more truths than MaxTruths.
func TestP4_8_many(t *testing.T) {
	sizes := map[int]int{}
	eachPossible(t, 88, 600, 8, func(r *rand.Rand, w api.Water, truths []int) {
		rounds, e := water.Rounds(w)
		if len(truths) > api.MaxTruths && (e != api.ErrMany || rounds != 0) || len(truths) <= api.MaxTruths && e != api.OK {
			t.Errorf("Rounds of %d truths = %d, %d", len(truths), rounds, e)
		}
		sizes[len(truths)]++
	})
	if sizes[api.MaxTruths] == 0 || sizes[api.MaxTruths+1] == 0 {
		t.Errorf("the numbers of truths: %v", sizes)
	}
}

// TestP4_9: whatever is foul, if no more springs are and no more samples are
// wrong than told, that is a possible truth, and nothing of it is served plain.
func TestP4_9(t *testing.T) {
	r := rand.New(rand.NewSource(9))
	for range 600 {
		w := randomWater(r, api.MaxSprings)
		truth := randomTruth(r, w)
		w = sampled(r, w, truth, r.Intn(api.MaxSamples+1))
		if !slices.Contains(truths(t, w), truth) {
			t.Errorf("Truths of %+v is without %d", w, truth)
		}
		plain, treated, _, e := water.Serve(w, 0)
		if e != api.OK || !disjoint(plain, truth) || !disjoint(plain, treated) {
			t.Errorf("Serve of %+v = %d, %d, %d; %d is foul", w, plain, treated, e, truth)
		}
		sure, may, e := water.Clean(w)
		others := setOf(slices.DeleteFunc(numbers(len(w.Springs)), func(i int) bool { return slices.Contains(elements(truth), i) }))
		if e != api.OK || sure != plain || !disjoint(sure, truth) || !isSubset(elements(others), elements(may)) {
			t.Errorf("Clean of %+v = %d, %d, %d; %d is foul", w, sure, may, e, truth)
		}
	}
}

// TestP4_10: one more sample makes no truth possible; more wrong samples and more
// foul springs make none impossible.
func TestP4_10(t *testing.T) {
	lost, gained := 0, 0
	eachCase(t, 10, 400, 6, func(r *rand.Rand, w api.Water) {
		before := truths(t, w)
		after := truths(t, with(w, api.Sample{Mix: randomMix(r, w), Foul: r.Intn(2) == 0}))
		if !isSubset(after, before) {
			t.Errorf("Truths = %v, and %v with one more sample", before, after)
		}
		lost += len(before) - len(after)
		for _, field := range []*int{&w.Misses, &w.Alarms, &w.Most} {
			*field++
			more := truths(t, w)
			if !isSubset(before, more) {
				t.Errorf("Truths = %v, and %v with greater numbers", before, more)
			}
			*field--
			gained += len(more) - len(before)
		}
	})
	if min(lost, gained) < 100 {
		t.Errorf("just %d truths lost, and %d gained", lost, gained)
	}
}

// TestP4_12: whatever the springs yield, there is enough; sets of other springs
// that take less fuel may yield too little.
func TestP4_12(t *testing.T) {
	eachPossible(t, 12, 400, 6, func(r *rand.Rand, w api.Water, truths []int) {
		all, _ := amounts(w, sets(w)-1)
		need := r.Intn(all + 1)
		plain, treated, fuel, e := water.Serve(w, need)
		if e != api.OK {
			t.Fatalf("Serve of %d, of %d: %d", need, all, e)
		}
		for _, chance := range []int{0, 1, 2} { // always the least, any amount, or the most
			litres := 0
			for _, i := range append(elements(plain), elements(treated)...) {
				s := w.Springs[i].Yield
				litres += []int{s.Low, s.Low + r.Intn(s.High-s.Low+1), s.High}[chance]
			}
			if litres < need {
				t.Errorf("Serve of %d = %d, %d yields %d", need, plain, treated, litres)
			}
		}
		surely, _ := amounts(w, plain)
		for set := range sets(w) {
			litres, less := amounts(w, set)
			if disjoint(set, plain) && less < fuel && surely+litres >= need {
				t.Errorf("Serve of %d = %d, %d, %d; %d takes %d", need, plain, treated, fuel, set, less)
			}
		}
	})
}

// TestP4_13: after the laboratory test of Best at most so many truths remain. A
// sample is a laboratory test where none can be wrong.
func TestP4_13(t *testing.T) {
	eachPossible(t, 13, 400, 6, func(r *rand.Rand, w api.Water, all []int) {
		if w.Misses != 0 || w.Alarms != 0 {
			return
		}
		mix, left, e := water.Best(w)
		a, b := len(truths(t, with(w, clean(mix)))), len(truths(t, with(w, foul(mix))))
		if e != api.OK || max(a, b) != left || a+b != len(all) {
			t.Errorf("Best = %d, %d, %d, but leaves %d or %d", mix, left, e, a, b)
		}
		other := randomMix(r, w)
		if worse := max(len(truths(t, with(w, clean(other)))), len(truths(t, with(w, foul(other))))); worse < left {
			t.Errorf("Best = %d, %d, but %d leaves %d", mix, left, other, worse)
		}
	})
}

// TestP4_14: Rounds is 0 exactly if one truth is possible, and one more than
// after the best test. After any test, some result leaves as many as are missing.
func TestP4_14(t *testing.T) {
	cases := 0
	rounds := func(w api.Water) int {
		n, e := water.Rounds(w)
		if e != api.OK && e != api.ErrNone { // no truth: this result cannot be
			t.Fatalf("Rounds of %+v: %d", w, e)
		}
		return n
	}
	eachPossible(t, 14, 1000, 7, func(r *rand.Rand, w api.Water, all []int) {
		if len(all) > api.MaxTruths {
			return
		}
		now := rounds(w)
		if (now == 0) != (len(all) == 1) {
			t.Errorf("Rounds of %d truths = %d", len(all), now)
		}
		if w.Misses != 0 || w.Alarms != 0 || len(all) == 1 {
			return
		}
		cases++
		best := api.MaxTruths
		for mix := 1; mix < sets(w); mix++ {
			then := max(rounds(with(w, clean(mix))), rounds(with(w, foul(mix))))
			if now > 1+then {
				t.Errorf("Rounds = %d, but %d after %d", now, then, mix)
			}
			best = min(best, then)
		}
		if now != 1+best {
			t.Errorf("Rounds = %d, but %d after the best test", now, best)
		}
	})
	if cases < 100 {
		t.Errorf("just %d cases", cases)
	}
}
