package water_test

import (
	"slices"
	"testing"

	"bivouac/api"
	"bivouac/water"
)

// repeat returns so many equal samples.
func repeat(count int, s api.Sample) []api.Sample { return slices.Repeat([]api.Sample{s}, count) }

// TestP4_2_Truths: the examples, no samples and as many as may be, and samples
// that are wrong as often as they may be and once more.
func TestP4_2_Truths(t *testing.T) {
	twenty := append(repeat(4, clean(1)), repeat(16, foul(1))...)
	for i, x := range []struct {
		w    api.Water
		want []int
	}{
		{exampleW(), []int{0, 4}}, {exampleV(), []int{4}}, {exampleU(), nil},
		// without samples only Most counts
		{springs(3, 0), []int{0}}, {springs(3, 1), []int{0, 1, 2, 4}}, {springs(3, 2), numbers(7)},
		{springs(3, 3), numbers(8)}, {springs(3, 4), numbers(8)}, {springs(3, api.MaxSprings), numbers(8)},
		{springs(1, 0), []int{0}}, {springs(1, 1), []int{0, 1}}, {springs(api.MaxSprings, api.MaxSprings), numbers(256)},
		{springs(8, 1), []int{0, 1, 2, 4, 8, 16, 32, 64, 128}},
		// samples that are right
		{with(springs(3, 3), clean(1)), []int{0, 2, 4, 6}}, {with(springs(3, 3), foul(1)), []int{1, 3, 5, 7}},
		{with(springs(3, 3), clean(5)), []int{0, 2}}, {with(springs(3, 3), foul(5)), []int{1, 3, 4, 5, 6, 7}},
		{with(springs(3, 1), foul(3), foul(6)), []int{2}}, {with(springs(3, 1), foul(1), foul(2)), nil},
		{with(springs(3, 0), foul(7)), nil}, {with(springs(3, 0), clean(7)), []int{0}},
		{with(springs(3, 3), clean(7), foul(7)), nil},
		// samples that miss what is foul
		{wrong(with(springs(1, 1), clean(1)), 1, 0), []int{0, 1}}, {wrong(with(springs(1, 1), clean(1), clean(1)), 1, 0), []int{0}},
		{wrong(with(springs(1, 1), repeat(4, clean(1))...), 4, 0), []int{0, 1}}, {wrong(with(springs(1, 1), repeat(5, clean(1))...), 4, 0), []int{0}},
		{wrong(with(springs(2, 2), clean(1), clean(3), clean(2)), 2, 0), []int{0, 1, 2}},
		{wrong(with(springs(1, 1), clean(1)), 0, 4), []int{0}},
		// false alarms
		{wrong(with(springs(1, 1), foul(1)), 0, 1), []int{0, 1}}, {wrong(with(springs(1, 1), foul(1), foul(1)), 0, 1), []int{1}},
		{wrong(with(springs(1, 0), repeat(4, foul(1))...), 0, 4), []int{0}}, {wrong(with(springs(1, 0), repeat(5, foul(1))...), 0, 4), nil},
		{wrong(with(springs(2, 2), foul(1), foul(3), foul(2)), 0, 2), []int{1, 2, 3}},
		{wrong(with(springs(1, 1), foul(1)), 4, 0), []int{1}},
		// both, each counted alone
		{wrong(with(springs(1, 1), clean(1), foul(1)), 1, 1), []int{0, 1}}, {wrong(with(springs(1, 1), clean(1), clean(1), foul(1)), 1, 1), []int{0}},
		{wrong(with(springs(1, 1), clean(1), foul(1), foul(1)), 1, 1), []int{1}}, {wrong(with(springs(1, 1), clean(1), clean(1), foul(1), foul(1)), 1, 1), nil},
		// as many samples as may be
		{wrong(with(springs(2, 2), twenty...), 4, 4), []int{1, 3}}, {wrong(with(springs(2, 2), twenty...), 3, 4), nil},
		{with(springs(8, 8), repeat(api.MaxSamples, clean(127))...), []int{0, 128}},
	} {
		if l, e := water.Truths(x.w); !slices.Equal(l, x.want) || (e == api.OK) != (len(x.want) > 0) || e != api.OK && e != api.ErrNone {
			t.Errorf("%d: Truths = %v, %d, want %v", i, l, e, x.want)
		}
	}
}

// TestP4_3_Clean: the examples, and springs that are foul in some, all or no
// truths. This is P4.4 for each single spring, too.
func TestP4_3_Clean(t *testing.T) {
	for i, x := range []struct {
		w         api.Water
		sure, may int
	}{
		{exampleW(), 3, 7}, {exampleV(), 3, 3},
		{springs(3, 0), 7, 7}, {springs(3, 1), 0, 7}, {springs(3, 3), 0, 7}, {springs(1, 1), 0, 1}, {springs(8, 0), 255, 255},
		{with(springs(3, 3), foul(1), clean(2)), 2, 6}, {with(springs(2, 2), foul(1), foul(2)), 0, 0},
		{with(springs(2, 2), clean(3)), 3, 3}, {with(springs(3, 1), foul(3)), 4, 7},
		// which of two is foul is not known, though one is
		{with(springs(2, 1), foul(3)), 0, 3}, {with(springs(3, 2), foul(1)), 0, 6},
	} {
		if sure, may, e := water.Clean(x.w); sure != x.sure || may != x.may || e != api.OK {
			t.Errorf("%d: Clean = %d, %d, %d, want %d, %d", i, sure, may, e, x.sure, x.may)
		}
		for spring := range x.w.Springs {
			mix := setOf([]int{spring})
			if sure, may, e := water.Pure(x.w, mix); sure == disjoint(mix, x.sure) || may == disjoint(mix, x.may) || e != api.OK {
				t.Errorf("%d: Pure of %d = %v, %v, %d", i, mix, sure, may, e)
			}
		}
	}
}

// TestP4_4_Pure: the examples, and mixes whose springs are clean in different
// truths only.
func TestP4_4_Pure(t *testing.T) {
	one := with(springs(2, 1), foul(3))
	for i, x := range []struct {
		w         api.Water
		mix       int
		sure, may bool
	}{
		{exampleW(), 1, true, true}, {exampleW(), 2, true, true}, {exampleW(), 3, true, true},
		{exampleW(), 4, false, true}, {exampleW(), 7, false, true}, {exampleV(), 3, true, true}, {exampleV(), 4, false, false}, {exampleV(), 5, false, false},
		{one, 1, false, true}, {one, 2, false, true}, {one, 3, false, false},
		{springs(8, 8), 255, false, true}, {springs(8, 0), 255, true, true}, {springs(1, 1), 1, false, true},
	} {
		if sure, may, e := water.Pure(x.w, x.mix); sure != x.sure || may != x.may || e != api.OK {
			t.Errorf("%d: Pure of %d = %v, %v, %d", i, x.mix, sure, may, e)
		}
	}
}

// TestP4_5_Conflict: the examples, several groups of samples that contradict
// each other, and samples of which some may be wrong.
func TestP4_5_Conflict(t *testing.T) {
	for i, x := range []struct {
		w    api.Water
		want []int
	}{
		{exampleU(), []int{0, 1, 2, 3, 4}}, {exampleV(), nil}, {exampleW(), nil}, {springs(3, 3), nil}, {springs(1, 0), nil},
		{with(springs(1, 0), foul(1)), []int{0}}, {with(springs(1, 0), foul(1), foul(1)), []int{1}},
		{with(springs(1, 0), clean(1), foul(1), clean(1)), []int{1}},
		// the last one of several groups remains
		{with(springs(2, 2), foul(1), clean(1), foul(2), clean(2)), []int{2, 3}},
		{with(springs(2, 2), foul(1), foul(2), clean(1), clean(2)), []int{1, 3}},
		{with(springs(2, 2), foul(2), foul(1), clean(1), clean(2)), []int{1, 2}},
		{with(springs(2, 2), foul(1), clean(2), clean(1), foul(2)), []int{1, 3}},
		{with(springs(3, 3), foul(3), clean(1), clean(2), clean(4)), []int{0, 1, 2}},
		{with(springs(3, 3), clean(3), foul(1), clean(1), foul(2)), []int{1, 2}},
		// too many springs would be foul
		{with(springs(3, 1), foul(1), foul(2)), []int{0, 1}}, {with(springs(3, 1), foul(1), foul(2), foul(4)), []int{1, 2}},
		{with(springs(3, 2), foul(1), foul(2), foul(4)), []int{0, 1, 2}},
		// samples that may be wrong
		{wrong(with(springs(1, 1), clean(1), foul(1)), 1, 0), nil}, {wrong(with(springs(1, 1), clean(1), foul(1), clean(1)), 1, 0), []int{0, 1, 2}},
		{wrong(with(springs(1, 1), clean(1), foul(1), clean(1), clean(1), foul(1)), 1, 0), []int{2, 3, 4}},
		{wrong(with(springs(1, 0), repeat(20, foul(1))...), 0, 4), []int{15, 16, 17, 18, 19}},
		{wrong(with(springs(1, 0), repeat(4, foul(1))...), 0, 4), nil},
	} {
		if l, e := water.Conflict(x.w); !slices.Equal(l, x.want) || (e == api.OK) != (len(x.want) > 0) || e != api.OK && e != api.ErrNone {
			t.Errorf("%d: Conflict = %v, %d, want %v", i, l, e, x.want)
		}
	}
}

// yielding returns water of springs that may all be foul, with their least
// yields and their fuel; they can yield more.
func yielding(litres, fuel []int) api.Water {
	w := springs(0, api.MaxSprings)
	for i := range litres {
		w.Springs = append(w.Springs, spring(litres[i], api.MaxYield, fuel[i]))
	}
	return w
}

// TestP4_6_Serve: the examples, needs at their limits, and several sets that are
// as good.
func TestP4_6_Serve(t *testing.T) {
	full := yielding([]int{1000, 1000, 1000, 1000, 1000, 1000, 1000, 1000}, []int{1000, 1000, 1000, 1000, 1000, 1000, 1000, 1000})
	pure := with(full, clean(255))
	some := yielding([]int{0, 7, 0, 20, 7, 13}, []int{0, 2, 3, 5, 3, 0})
	tied := yielding([]int{10, 10, 20, 20}, []int{2, 2, 4, 4})
	free := yielding([]int{0, 5, 5, 10}, []int{0, 0, 0, 0})
	for i, x := range []struct {
		w                          api.Water
		need, plain, treated, fuel int
		e                          api.Errno
	}{
		{exampleW(), 0, 3, 0, 0, api.OK}, {exampleW(), 39, 3, 0, 0, api.OK}, {exampleW(), 40, 3, 0, 0, api.OK}, {exampleW(), 41, 3, 4, 2, api.OK},
		{exampleW(), 45, 3, 4, 2, api.OK}, {exampleW(), 46, 0, 0, 0, api.ErrNone}, {exampleW(), api.MaxLitres, 0, 0, 0, api.ErrNone},
		{exampleV(), 45, 3, 4, 2, api.OK}, {exampleV(), 46, 0, 0, 0, api.ErrNone},
		// all or nothing is surely clean
		{full, 0, 0, 0, 0, api.OK}, {full, 8000, 0, 255, 8000, api.OK}, {full, 8001, 0, 0, 0, api.ErrNone}, {full, 7000, 0, 127, 7000, api.OK}, {full, 1, 0, 1, 1000, api.OK},
		{pure, 0, 255, 0, 0, api.OK}, {pure, 8000, 255, 0, 0, api.OK}, {pure, 8001, 0, 0, 0, api.ErrNone}, {pure, 10000, 0, 0, 0, api.ErrNone},
		// springs that yield nothing are served if they are clean, and never treated
		{some, 0, 0, 0, 0, api.OK}, {with(some, clean(5)), 0, 5, 0, 0, api.OK}, {with(some, clean(5)), 1, 5, 32, 0, api.OK},
		{some, 13, 0, 32, 0, api.OK}, {some, 14, 0, 34, 2, api.OK}, {some, 20, 0, 34, 2, api.OK}, {some, 21, 0, 40, 5, api.OK},
		{some, 27, 0, 40, 5, api.OK}, {some, 33, 0, 40, 5, api.OK}, {some, 34, 0, 42, 7, api.OK}, {some, 47, 0, 58, 10, api.OK}, {some, 48, 0, 0, 0, api.ErrNone},
		{with(some, clean(32)), 20, 32, 2, 2, api.OK}, {with(some, clean(32)), 13, 32, 0, 0, api.OK},
		// the least fuel, then the fewest springs, then the lowest number
		{tied, 10, 0, 1, 2, api.OK}, {tied, 20, 0, 4, 4, api.OK}, {tied, 30, 0, 5, 6, api.OK}, {tied, 40, 0, 12, 8, api.OK}, {tied, 50, 0, 13, 10, api.OK},
		{yielding([]int{5, 5, 10}, []int{1, 1, 3}), 10, 0, 3, 2, api.OK}, {yielding([]int{5, 5, 10}, []int{1, 1, 2}), 10, 0, 4, 2, api.OK},
		{yielding([]int{5, 5, 5}, []int{3, 2, 2}), 10, 0, 6, 4, api.OK}, {yielding([]int{9, 9, 5, 5}, []int{2, 1, 1, 1}), 10, 0, 6, 2, api.OK},
		{free, 0, 0, 0, 0, api.OK}, {free, 1, 0, 2, 0, api.OK}, {free, 10, 0, 8, 0, api.OK}, {free, 15, 0, 10, 0, api.OK}, {free, 20, 0, 14, 0, api.OK},
	} {
		if plain, treated, fuel, e := water.Serve(x.w, x.need); plain != x.plain || treated != x.treated || fuel != x.fuel || e != x.e {
			t.Errorf("%d: Serve of %d = %d, %d, %d, %d, want %d, %d, %d, %d", i, x.need, plain, treated, fuel, e, x.plain, x.treated, x.fuel, x.e)
		}
	}
}

// hard returns water in which all springs but one are foul: each test tells just
// whether it is a certain one.
func hard() api.Water {
	return with(springs(3, 2), foul(3), foul(5), foul(6))
}

// seventeen returns water with one truth more than MaxTruths: any with the
// spring 0, and all but this one.
func seventeen() api.Water {
	return with(springs(5, 5), foul(3), foul(5), foul(9), foul(17))
}

// TestP4_7_Best: the examples, one possible truth, and several mixes that are as
// good.
func TestP4_7_Best(t *testing.T) {
	for i, x := range []struct {
		w         api.Water
		mix, left int
	}{
		{exampleW(), 4, 1}, {springs(3, 3), 1, 4}, {springs(3, 1), 3, 2},
		{exampleV(), 1, 1}, {springs(1, 0), 1, 1}, {springs(8, 0), 1, 1}, {springs(1, 1), 1, 1},
		{springs(8, 8), 1, 128}, {springs(8, 1), 15, 5}, {springs(4, 2), 1, 7}, {seventeen(), 2, 9},
		// no mix tells more than that a certain truth holds
		{hard(), 1, 2}, {with(springs(3, 1), clean(3)), 4, 1}, {with(springs(3, 3), clean(1)), 2, 2},
	} {
		if mix, left, e := water.Best(x.w); mix != x.mix || left != x.left || e != api.OK {
			t.Errorf("%d: Best = %d, %d, %d, want %d, %d", i, mix, left, e, x.mix, x.left)
		}
	}
}

// TestP4_8_Rounds: the examples, one truth, as many truths as may be and one
// more, and more tests than it takes to halve the truths.
func TestP4_8_Rounds(t *testing.T) {
	if n := len(truths(t, seventeen())); n != api.MaxTruths+1 {
		t.Fatalf("%d truths, not one more than may be", n)
	}
	for i, x := range []struct {
		w      api.Water
		rounds int
		e      api.Errno
	}{
		{exampleW(), 1, api.OK}, {exampleV(), 0, api.OK}, {springs(3, 3), 3, api.OK}, {springs(3, 1), 2, api.OK},
		{springs(1, 0), 0, api.OK}, {springs(8, 0), 0, api.OK}, {springs(1, 8), 1, api.OK}, {springs(8, 1), 4, api.OK},
		{springs(4, 4), 4, api.OK}, {springs(5, 2), 5, api.OK}, {with(springs(5, 5), clean(1)), 4, api.OK}, {with(springs(5, 5), foul(16)), 4, api.OK},
		{hard(), 2, api.OK}, {with(springs(4, 3), foul(3), foul(5), foul(9), foul(6), foul(10), foul(12)), 3, api.OK},
		// the worse of two results is the one that counts
		{wrong(with(springs(4, 4), foul(1), clean(3), foul(2), clean(8), foul(7), foul(7)), 1, 2), 3, api.OK},
		{wrong(with(springs(5, 5), clean(16), clean(11), foul(30), foul(14), clean(8)), 1, 0), 3, api.OK},
		{seventeen(), 0, api.ErrMany}, {springs(5, 5), 0, api.ErrMany}, {springs(6, 2), 0, api.ErrMany}, {springs(8, 8), 0, api.ErrMany},
	} {
		if rounds, e := water.Rounds(x.w); rounds != x.rounds || e != x.e {
			t.Errorf("%d: Rounds = %d, %d, want %d, %d", i, rounds, e, x.rounds, x.e)
		}
	}
}
