package beds_test

import (
	"math/rand"
	"slices"
	"testing"

	"bivouac/api"
	"bivouac/beds"
)

// TestP2_2_Merge: each message once, by Ids, requests before cancellations.
func TestP2_2_Merge(t *testing.T) {
	l := exampleMessages()
	b := []api.Message{cancel(8), l[0], cancel(3), request(1, 40, 1, stay(1, 0, 0)), cancel(3)}
	want := []api.Message{b[3], l[1], cancel(3), l[0], l[2], cancel(8), l[3]}
	for i, x := range []struct{ a, b, want []api.Message }{
		{l, b, want}, {b, l, want}, {want, l, want}, {want, want, want},
		{nil, nil, nil}, {nil, []api.Message{}, nil}, {b[:1], nil, b[:1]}, {nil, b[:1], b[:1]},
		{[]api.Message{cancel(4), cancel(4)}, []api.Message{{Kind: api.Cancel, Id: 4, Stays: []api.Stay{}}}, []api.Message{cancel(4)}},
	} {
		if all, e := beds.Merge(exampleChain(), x.a, x.b); e != api.OK || !same(all, x.want) {
			t.Errorf("%d: Merge = %v, %d", i, all, e)
		}
	}
}

// cancels returns cancellations of the Ids from one to another one.
func cancels(from, to int) []api.Message {
	var l []api.Message
	for id := from; id <= to; id++ {
		l = append(l, cancel(id))
	}
	return l
}

// TestP2_2_errors: the first error of a, of b, and of both together.
func TestP2_2_errors(t *testing.T) {
	bad := []api.Message{{}}
	one, other := request(50, 1, 1, stay(0, 0, 0)), request(50, 2, 1, stay(0, 0, 0))
	for i, x := range []struct {
		a, b []api.Message
		want api.Errno
	}{
		{bad, clashing(), api.ErrMessages},
		{clashing(), bad, api.ErrClash},
		{exampleMessages(), bad, api.ErrMessages},
		{exampleMessages(), clashing(), api.ErrClash},
		{cancels(0, 40), nil, api.ErrMessages},
		{nil, cancels(0, 40), api.ErrMessages},
		{cancels(0, 39), cancels(0, 39), api.OK},
		{cancels(0, 39), cancels(1, 40), api.ErrMany},
		{cancels(0, 19), cancels(20, 39), api.OK},
		{cancels(0, 20), cancels(21, 40), api.ErrMany},
		{append(cancels(0, 38), one), cancels(0, 38), api.OK},
		{append(cancels(0, 38), one), []api.Message{one, one}, api.OK},
		{append(cancels(0, 38), one), []api.Message{other}, api.ErrMany},
		{append(cancels(0, 37), one), []api.Message{other}, api.ErrClash},
		{[]api.Message{one}, []api.Message{cancel(50), other}, api.ErrClash},
	} {
		all, e := beds.Merge(exampleChain(), x.a, x.b)
		if e != x.want || e != api.OK && len(all) > 0 || e == api.OK && len(all) != api.MaxMessages {
			t.Errorf("%d: Merge = %v, %d, want %d", i, all, e, x.want)
		}
	}
}

// TestP2_3_Accepted: the examples, equal stamps, cancellations, and the limits
// of huts. This is P2.4, too.
func TestP2_3_Accepted(t *testing.T) {
	l := exampleMessages()
	even := []api.Message{request(2, 5, 1, stay(0, 0, 0)), request(1, 5, 1, stay(0, 0, 0)), request(0, 6, 1, stay(0, 0, 0)), request(99, 4, 2, stay(0, 0, 0))}
	twenty := make([]api.Message, 0, api.MaxMessages)
	for i := range api.MaxMessages {
		twenty = append(twenty, request(i, api.MaxStamp-i, 1, stay(0, 0, 19)))
	}
	var first, last []int
	for i := range 20 {
		first, last = append(first, 19-i), append(last, 20+i)
	}
	for i, x := range []struct {
		c                 api.Chain
		l                 []api.Message
		accepted, waiting []int
	}{
		{exampleChain(), l, []int{5, 9}, []int{3, 8}},
		{exampleChain(), without(l, 5), []int{3, 8}, []int{9}},
		{exampleChain(), append(l, cancel(5)), []int{3, 8}, []int{9}},
		{exampleChain(), without(l, 3, 5), []int{8, 9}, nil},
		{exampleChain(), without(l, 3, 5, 8, 9), nil, nil},
		{exampleChain(), append(l, l...), []int{5, 9}, []int{3, 8}},
		{exampleChain(), without(l, 77), []int{5, 9}, []int{3, 8}},
		{exampleChain(), nil, nil, nil},
		// the lower Id is first with the same stamp
		{oneHut(3, 1), even, []int{1, 99}, []int{2, 0}},
		{oneHut(4, 1), even, []int{1, 2, 99}, []int{0}},
		{oneHut(1, 1), even, []int{1}, []int{99, 2, 0}},
		{oneHut(0, 1), even, nil, []int{99, 1, 2, 0}},
		{oneHut(20, 20), twenty, last, first},
		// what waits in one night needs beds in none; a later one can be accepted
		{oneHut(2, 3), []api.Message{request(1, 1, 2, stay(0, 2, 2)), request(2, 2, 1, stay(0, 0, 2)), request(3, 3, 2, stay(0, 0, 1))}, []int{1, 3}, []int{2}},
		// stays that follow each other, in one hut and in two
		{exampleChain(), []api.Message{request(1, 1, 2, stay(1, 0, 0), stay(1, 1, 1)), request(2, 2, 1, stay(0, 0, 0), stay(1, 1, 1)), request(3, 3, 2, stay(0, 1, 1), stay(1, 2, 2))}, []int{1, 3}, []int{2}},
		{oneHut(20, 1), []api.Message{request(1, 1, 20, stay(0, 0, 0)), request(2, 2, 1, stay(0, 0, 0))}, []int{1}, []int{2}},
	} {
		if l, e := beds.Accepted(x.c, x.l); e != api.OK || !slices.Equal(l, x.accepted) {
			t.Errorf("%d: Accepted = %v, %d", i, l, e)
		}
		if l, e := beds.Waiting(x.c, x.l); e != api.OK || !slices.Equal(l, x.waiting) {
			t.Errorf("%d: Waiting = %v, %d", i, l, e)
		}
	}
}

// TestP2_5_Left: the examples, and each night of each hut.
func TestP2_5_Left(t *testing.T) {
	for hut, row := range [][]int{{1, 0, 2, 2}, {2, 2, 0, 2}} {
		for night, want := range row {
			if n, e := beds.Left(exampleChain(), exampleMessages(), hut, night); n != want || e != api.OK {
				t.Errorf("Left of %d in %d = %d, %d, want %d", hut, night, n, e, want)
			}
		}
	}
	if n, e := beds.Left(oneHut(20, 20), nil, 0, 19); n != 20 || e != api.OK {
		t.Errorf("Left without messages = %d, %d", n, e)
	}
	if n, e := beds.Left(oneHut(0, 1), nil, 0, 0); n != 0 || e != api.OK {
		t.Errorf("Left without beds = %d, %d", n, e)
	}
	full := []api.Message{request(0, 0, 20, stay(0, 3, 5))}
	for night, want := range []int{20, 20, 20, 0, 0, 0, 20} {
		if n, e := beds.Left(oneHut(20, 7), full, 0, night); n != want || e != api.OK {
			t.Errorf("Left of a full hut in %d = %d, %d, want %d", night, n, e, want)
		}
	}
}

// TestP2_6_Allocate: the example, and stays that must not take beds of others.
func TestP2_6_Allocate(t *testing.T) {
	checkAllocation(t, exampleChain(), exampleMessages())
	checkAllocation(t, exampleChain(), nil)
	held, e := beds.Allocate(exampleChain(), exampleMessages())
	if e != api.OK || len(held) != 3 || held[0].Id != 5 || held[0].Stay != 0 || held[1].Id != 5 || held[1].Stay != 1 || held[2].Id != 9 || held[2].Stay != 0 {
		t.Errorf("Allocate = %v, %d", held, e)
	}
	// With beds given by the turns the last one would have to change its bed.
	change := []api.Message{request(1, 1, 1, stay(0, 0, 0)), request(2, 2, 1, stay(0, 3, 3)), request(3, 3, 1, stay(0, 0, 2)), request(4, 4, 1, stay(0, 1, 3))}
	checkAllocation(t, oneHut(2, 4), change)
	var steps []api.Message
	for i := range api.MaxNights {
		steps = append(steps, request(i, 7*i%20, 10, stay(0, i, min(i+1, 19))), request(50+i, 3*i%20, 5, stay(0, i/2*2, i/2*2+1)))
	}
	checkAllocation(t, oneHut(20, 20), steps)
}

// checkAllocation checks what Allocate returns by the definition.
func checkAllocation(t *testing.T, c api.Chain, l []api.Message) {
	t.Helper()
	held, e := beds.Allocate(c, l)
	if e != api.OK {
		t.Errorf("Allocate: %d", e)
	}
	booked, _ := decide(c, l)
	slices.SortFunc(booked, func(a, b api.Message) int { return a.Id - b.Id })
	owners := map[[3]int]bool{} // a hut, a night and a bed
	i := 0
	for _, m := range booked {
		for number, s := range m.Stays {
			if i == len(held) || held[i].Id != m.Id || held[i].Stay != number || len(held[i].Beds) != m.People {
				t.Fatalf("Allocate = %v, for %v", held, booked)
			}
			for k, bed := range held[i].Beds {
				if bed < 0 || bed >= c.Huts[s.Hut].Beds || k > 0 && bed <= held[i].Beds[k-1] {
					t.Errorf("Allocate gives the beds %v", held[i])
				}
				for night := s.Nights.Low; night <= s.Nights.High; night++ {
					if owners[[3]int{s.Hut, night, bed}] {
						t.Errorf("Allocate = %v: two have the bed %d of %d in %d", held, bed, s.Hut, night)
					}
					owners[[3]int{s.Hut, night, bed}] = true
				}
			}
			i++
		}
	}
	if i != len(held) {
		t.Errorf("Allocate = %v, for %v", held, booked)
	}
}

// TestP2_7_Why: the examples, and the first of several nights.
func TestP2_7_Why(t *testing.T) {
	l := exampleMessages()
	late := []api.Message{request(1, 1, 3, stay(0, 2, 3)), request(2, 2, 1, stay(1, 0, 0)), request(3, 3, 2, stay(1, 0, 0), stay(0, 1, 3)), request(4, 4, 1, stay(1, 0, 0)), request(5, 0, 20, stay(0, 0, 0), stay(1, 1, 1))}
	for i, x := range []struct {
		l                []api.Message
		id               int
		hut, night, lack int
		e                api.Errno
	}{
		{l, 3, 0, 1, 1, api.OK}, {l, 8, 1, 2, 1, api.OK}, {l, 9, 0, 0, 0, api.ErrNone}, {l, 5, 0, 0, 0, api.ErrNone},
		{l, 4, 0, 0, 0, api.ErrNone}, {nil, 3, 0, 0, 0, api.ErrNone}, {without(l, 3), 3, 0, 0, 0, api.ErrNone}, {without(l, 5), 9, 0, 1, 1, api.OK},
		// 4 does not take the bed of 3, as it is behind it; 5 lacks beds without any booking
		{late, 3, 1, 0, 1, api.OK}, {late, 4, 0, 0, 0, api.ErrNone}, {without(late, 2), 3, 0, 2, 2, api.OK}, {late, 5, 0, 0, 17, api.OK},
	} {
		if hut, night, lack, e := beds.Why(exampleChain(), x.l, x.id); hut != x.hut || night != x.night || lack != x.lack || e != x.e {
			t.Errorf("%d: Why of %d = %d, %d, %d, %d", i, x.id, hut, night, lack, e)
		}
	}
}

// TestP2_8_Release: the examples, and what a cancellation makes of the others.
func TestP2_8_Release(t *testing.T) {
	l := exampleMessages()
	one := func(id, stamp, night int) api.Message { return request(id, stamp, 1, stay(0, night, night)) }
	// Each of 7 and 8 has both nights, 1 to 4 have one of them.
	nights := []api.Message{one(4, 1, 0), one(3, 2, 1), one(2, 2, 0), one(1, 2, 1), request(8, 3, 1, stay(0, 0, 1)), request(7, 4, 1, stay(0, 0, 1)), request(50, 9, 1, stay(0, 0, 1))}
	// 2 is accepted without 1 and does not let 3 in, whoever else is cancelled.
	blocked := []api.Message{one(1, 1, 0), one(2, 2, 0), one(3, 3, 0)}
	// Without 1 the request 2 displaces 3 and 4, which have what 5 needs.
	displaced := []api.Message{one(1, 1, 0), request(2, 2, 1, stay(0, 0, 2)), one(3, 3, 1), one(4, 4, 2), request(5, 5, 1, stay(0, 1, 2)), request(6, 6, 1, stay(0, 0, 0))}
	aside := []api.Message{request(1, 1, 1, stay(0, 0, 0)), request(2, 2, 1, stay(0, 0, 0), stay(1, 1, 3)), request(3, 3, 2, stay(1, 1, 1), stay(1, 3, 3)), request(4, 4, 1, stay(1, 2, 2), stay(1, 3, 3)), request(9, 9, 1, stay(1, 1, 1))}
	for i, x := range []struct {
		c    api.Chain
		l    []api.Message
		id   int
		want []int
		e    api.Errno
	}{
		{exampleChain(), l, 3, []int{5}, api.OK}, {exampleChain(), l, 8, []int{5}, api.OK}, {exampleChain(), l, 9, nil, api.ErrNone},
		{exampleChain(), l, 5, nil, api.ErrNone}, {exampleChain(), l, 4, nil, api.ErrNone}, {exampleChain(), nil, 4, nil, api.ErrNone},
		{exampleChain(), without(l, 3), 3, nil, api.ErrNone}, {exampleChain(), without(l, 5), 9, []int{3}, api.OK},
		{oneHut(4, 2), nights, 50, []int{7}, api.OK}, {oneHut(3, 2), without(nights, 7), 50, []int{8}, api.OK},
		{oneHut(2, 2), without(nights, 7, 8), 50, []int{1, 2}, api.OK}, {oneHut(1, 2), without(nights, 2, 3, 7, 8), 50, []int{1, 4}, api.OK},
		{oneHut(1, 1), blocked, 2, []int{1}, api.OK}, {oneHut(1, 1), blocked, 3, nil, api.ErrNone},
		{oneHut(1, 3), displaced, 2, []int{1}, api.OK}, {oneHut(1, 3), displaced, 5, []int{3, 4}, api.OK}, {oneHut(1, 3), displaced, 6, nil, api.ErrNone},
		{api.Chain{Huts: []api.Hut{{Beds: 1}, {Beds: 2}}, Nights: 4}, aside, 9, []int{1}, api.OK},
		{oneHut(1, 1), []api.Message{request(1, 1, 2, stay(0, 0, 0))}, 1, nil, api.ErrNone},
		{oneHut(0, 1), []api.Message{request(1, 1, 1, stay(0, 0, 0))}, 1, nil, api.ErrNone},
	} {
		if l, e := beds.Release(x.c, x.l, x.id); e != x.e || !slices.Equal(l, x.want) {
			t.Errorf("%d: Release of %d = %v, %d, want %v", i, x.id, l, e, x.want)
		}
	}
}

// TestP2_8_many: as many bookings, and as many to cancel, as can be.
func TestP2_8_many(t *testing.T) {
	two := api.Chain{Huts: []api.Hut{{Beds: 20}, {Beds: 20}}, Nights: 20}
	var l []api.Message
	var all []int
	for i := range api.MaxMessages - 1 {
		l = append(l, request(2*i+1, 5000-i, 1, stay(i%2, 9-i/2%10, 10+i/2%10)))
		all = append(all, 2*i+1)
	}
	both := append(slices.Clone(l), request(0, 9000, 20, stay(0, 9, 9), stay(1, 10, 10)))
	if ids, e := beds.Release(two, both, 0); e != api.OK || !slices.Equal(ids, all) {
		t.Errorf("Release of all = %v, %d", ids, e)
	}
	// Of the twenty bookings of the hut 0 any ten are enough: the lowest ones.
	half := append(slices.Clone(l), request(0, 9000, 10, stay(0, 9, 9)))
	if ids, e := beds.Release(two, half, 0); e != api.OK || !slices.Equal(ids, []int{1, 5, 9, 13, 17, 21, 25, 29, 33, 37}) {
		t.Errorf("Release of the half = %v, %d", ids, e)
	}
	// Those that wait take the beds one after another, so the last ones need most.
	var waiting []api.Message
	for i := range 20 {
		waiting = append(waiting, request(i, i, 1, stay(0, 0, 19)), request(20+i, 20+i, 1, stay(0, 0, 19)))
	}
	checkCount := func(id, want int) {
		t.Helper()
		ids, e := beds.Release(oneHut(20, 20), waiting, id)
		if (e == api.OK) != (want > 0) || want == 0 && e != api.ErrNone || !slices.Equal(ids, sorted(rand.Perm(want))) {
			t.Errorf("Release of %d = %v, %d, want the first %d", id, ids, e, want)
		}
	}
	for id := 20; id < 40; id++ {
		checkCount(id, id-19)
	}
	for i := range 20 {
		waiting[2*i+1].People = 2
	}
	for id := 20; id < 30; id++ {
		checkCount(id, 2*(id-19))
		checkCount(id+10, 0)
	}
}

// TestP2_9_LetIn: the examples, and people from 0 to MaxPeople.
func TestP2_9_LetIn(t *testing.T) {
	big := api.Chain{Huts: []api.Hut{{Beds: 20, Emergency: 20}, {Beds: 20}, {Emergency: 20}, {}}, Nights: 1}
	for i, x := range []struct {
		c                   api.Chain
		l                   []api.Message
		hut, night, people  int
		bed, emergency, off int
	}{
		{exampleChain(), exampleMessages(), 0, 1, 4, 0, 2, 2},
		{exampleChain(), exampleMessages(), 0, 2, 4, 2, 2, 0},
		{exampleChain(), exampleMessages(), 0, 2, 3, 2, 1, 0},
		{exampleChain(), exampleMessages(), 0, 2, 2, 2, 0, 0},
		{exampleChain(), exampleMessages(), 0, 2, 1, 1, 0, 0},
		{exampleChain(), exampleMessages(), 0, 2, 0, 0, 0, 0},
		{exampleChain(), exampleMessages(), 1, 2, 1, 0, 0, 1},
		{exampleChain(), exampleMessages(), 1, 3, 3, 2, 0, 1},
		{big, nil, 0, 0, api.MaxPeople, 20, 20, 60},
		{big, nil, 1, 0, api.MaxPeople, 20, 0, 80},
		{big, nil, 2, 0, api.MaxPeople, 0, 20, 80},
		{big, nil, 3, 0, api.MaxPeople, 0, 0, 100},
	} {
		if bed, emergency, off, e := beds.LetIn(x.c, x.l, x.hut, x.night, x.people); bed != x.bed || emergency != x.emergency || off != x.off || e != api.OK {
			t.Errorf("%d: LetIn = %d, %d, %d, %d", i, bed, emergency, off, e)
		}
	}
}
