package beds_test

import (
	"math/rand"
	"reflect"
	"slices"
	"testing"

	"bivouac/api"
	"bivouac/beds"
)

// TestP2_3_all compares with the definition: what is accepted and what waits,
// what is left, and why. This is P2.4, P2.5, P2.6 and P2.7, too.
func TestP2_3_all(t *testing.T) {
	eachCase(t, 3, 1500, func(r *rand.Rand, c api.Chain, l []api.Message) {
		booked, waiting := decide(c, l)
		if got := accepted(t, c, l); !slices.Equal(got, sorted(ids(booked))) {
			t.Errorf("Accepted = %v, want %v", got, sorted(ids(booked)))
		}
		if got, e := beds.Waiting(c, l); e != api.OK || !slices.Equal(got, ids(waiting)) {
			t.Errorf("Waiting = %v, %d, want %v", got, e, ids(waiting))
		}
		for hut := range c.Huts {
			for night := range c.Nights {
				if n, e := beds.Left(c, l, hut, night); e != api.OK || n != unused(c, booked, hut, night) {
					t.Errorf("Left of %d in %d = %d, %d", hut, night, n, e)
				}
			}
		}
		for _, m := range waiting {
			turn := slices.IndexFunc(turns(l), func(x api.Message) bool { return x.Id == m.Id })
			first, _ := decide(c, turns(l)[:turn])
			wantHut, wantNight, wantShort := lack(c, first, m)
			if hut, night, short, e := beds.Why(c, l, m.Id); e != api.OK || hut != wantHut || night != wantNight || short != wantShort {
				t.Errorf("Why of %d = %d, %d, %d, %d, want %d, %d, %d", m.Id, hut, night, short, e, wantHut, wantNight, wantShort)
			}
		}
		checkAllocation(t, c, l)
	})
}

// released returns the first of the shortest lists of accepted bookings without
// which a request is accepted, after all shorter ones and all before it.
func released(c api.Chain, l []api.Message, id int) ([]int, bool) {
	booked, _ := decide(c, l)
	var found []int
	helps := func(chosen []int) bool {
		now, _ := decide(c, without(l, chosen...))
		found = chosen
		return slices.Contains(ids(now), id)
	}
	for count := range len(booked) + 1 {
		if eachSubset(sorted(ids(booked)), count, helps) {
			return found, true
		}
	}
	return nil, false
}

// TestP2_8_all compares Release with all lists of bookings.
func TestP2_8_all(t *testing.T) {
	lengths := map[int]int{}
	eachCase(t, 8, 900, func(r *rand.Rand, c api.Chain, l []api.Message) {
		_, waiting := decide(c, l)
		for _, m := range waiting {
			want, ok := released(c, l, m.Id)
			got, e := beds.Release(c, l, m.Id)
			if (e == api.OK) != ok || !ok && e != api.ErrNone || !slices.Equal(got, want) {
				t.Errorf("Release of %d = %v, %d, want %v", m.Id, got, e, want)
			}
			lengths[len(want)]++
		}
	})
	for _, count := range []int{0, 1, 2, 3} {
		if lengths[count] < 20 {
			t.Errorf("just %d lists with %d bookings: %v", lengths[count], count, lengths)
		}
	}
}

// outcome is all results for messages: those of each function, and then, for each
// message, its Id and what Why and Release tell of it.
func outcome(c api.Chain, l []api.Message) []any {
	var all []any
	for _, f := range calls {
		for hut := range c.Huts {
			for night := range c.Nights {
				results, e := f.call(c, l, arguments{hut, night, 7, 0, nil})
				all = append(all, results, e)
			}
		}
	}
	for _, m := range l {
		hut, night, short, e := beds.Why(c, l, m.Id)
		ids, e2 := beds.Release(c, l, m.Id)
		all = append(all, m.Id, []any{hut, night, short, e, ids, e2})
	}
	return all
}

// byId returns messages each once, in one order of all.
func byId(l []api.Message) []api.Message {
	var once []api.Message
	for _, m := range l {
		if !slices.ContainsFunc(once, func(x api.Message) bool { return same([]api.Message{x}, []api.Message{m}) }) {
			once = append(once, m)
		}
	}
	slices.SortFunc(once, func(a, b api.Message) int { return 10*a.Id + a.Kind - 10*b.Id - b.Kind })
	return once
}

// TestP2_10: no result depends on the order, nor on how often messages come.
func TestP2_10(t *testing.T) {
	eachCase(t, 10, 400, func(r *rand.Rand, c api.Chain, l []api.Message) {
		once := byId(l)
		other := slices.Clone(once)
		for len(other) > 0 && len(other) < len(once)+5 {
			other = append(other, once[r.Intn(len(once))])
		}
		r.Shuffle(len(other), func(i, j int) { other[i], other[j] = other[j], other[i] })
		a, b := outcome(c, once), outcome(c, other)
		if !reflect.DeepEqual(a[:len(a)-2*len(once)], b[:len(b)-2*len(other)]) {
			t.Errorf("the results for %v are others", other)
		}
		for i := len(b) - 2*len(other); i < len(b); i += 2 {
			k := len(a) - 2*len(once) + 2*slices.IndexFunc(once, func(m api.Message) bool { return m.Id == b[i] })
			if !reflect.DeepEqual(a[k+1], b[i+1]) {
				t.Errorf("of %v: %v, %v", b[i], a[k+1], b[i+1])
			}
		}
	})
}

// TestP2_10_Merge: it has each message once, in one order, however it came.
func TestP2_10_Merge(t *testing.T) {
	eachCase(t, 102, 400, func(r *rand.Rand, c api.Chain, l []api.Message) {
		cut, from := r.Intn(len(l)+1), r.Intn(len(l)+1)
		a, b := l[:cut], l[min(from, cut):]
		all, e := beds.Merge(c, a, b)
		if e != api.OK || !same(all, byId(l)) {
			t.Errorf("Merge of %v, %v = %v, %d", a, b, all, e)
		}
		for _, x := range [][2][]api.Message{{b, a}, {all, a}, {b, all}, {all, all}, {all, nil}} {
			if again, e := beds.Merge(c, x[0], x[1]); e != api.OK || !reflect.DeepEqual(again, all) {
				t.Errorf("Merge of %v = %v, %d, want %v", x, again, e, all)
			}
		}
		if !slices.Equal(accepted(t, c, all), accepted(t, c, l)) {
			t.Errorf("Accepted of %v is another one", all)
		}
	})
}

// TestP2_11: in no night more beds are needed than there are; and each bed has
// one owner.
func TestP2_11(t *testing.T) {
	eachCase(t, 11, 600, func(r *rand.Rand, c api.Chain, l []api.Message) {
		booked := accepted(t, c, l)
		for hut := range c.Huts {
			for night := range c.Nights {
				need := 0
				for _, m := range turns(l) {
					if slices.Contains(booked, m.Id) && stays(m, hut, night) {
						need += m.People
					}
				}
				left, _ := beds.Left(c, l, hut, night)
				if need > c.Huts[hut].Beds || left != c.Huts[hut].Beds-need {
					t.Errorf("%d beds of the hut %d are needed in %d, %d are left", need, hut, night, left)
				}
			}
		}
		checkAllocation(t, c, l)
	})
}

// TestP2_12: who waits would wait without those behind it; who is accepted is
// so whatever comes behind it.
func TestP2_12(t *testing.T) {
	eachCase(t, 12, 600, func(r *rand.Rand, c api.Chain, l []api.Message) {
		booked, queue := accepted(t, c, l), turns(l)
		for i, m := range queue {
			alone := accepted(t, c, queue[:i+1])
			if slices.Contains(alone, m.Id) != slices.Contains(booked, m.Id) {
				t.Errorf("%d is accepted or not by what is behind it: %v, %v", m.Id, alone, booked)
			}
			enough := true
			for hut := range c.Huts {
				for night := range c.Nights {
					left, _ := beds.Left(c, queue[:i], hut, night)
					enough = enough && (!stays(m, hut, night) || left >= m.People)
				}
			}
			if enough != slices.Contains(booked, m.Id) {
				t.Errorf("%d is accepted or not although there are enough beds or not", m.Id)
			}
		}
		late := spellOf(c).request(r, c, 0)
		late.Stamp = api.MaxStamp
		late.Id = api.MaxBooking
		if slices.ContainsFunc(l, func(m api.Message) bool { return m.Id == late.Id }) {
			return
		}
		for _, id := range booked {
			if !slices.Contains(accepted(t, c, append(l, late)), id) {
				t.Errorf("%d is not accepted with %v behind it", id, late)
			}
		}
	})
}

// spellOf returns how requests for a chain are made.
func spellOf(c api.Chain) spell { return spell{len(c.Huts), c.Nights, 1, 3, 3, 0} }

// TestP2_13: what is cancelled has never been; who is first of those that wait
// gets what a booking before it leaves.
func TestP2_13(t *testing.T) {
	found := 0
	eachCase(t, 13, 1500, func(r *rand.Rand, c api.Chain, l []api.Message) {
		for _, m := range turns(l) {
			never := slices.DeleteFunc(slices.Clone(l), func(x api.Message) bool { return x.Id == m.Id })
			if a, b := accepted(t, c, without(l, m.Id)), accepted(t, c, never); !slices.Equal(a, b) {
				t.Errorf("without %d: %v; cancelled: %v", m.Id, b, a)
			}
		}
		booked, waiting := decide(c, l)
		if len(waiting) == 0 {
			return
		}
		first := waiting[0]
		for _, m := range booked {
			covers := m.People >= first.People && (m.Stamp < first.Stamp || m.Stamp == first.Stamp && m.Id < first.Id)
			for hut := range c.Huts {
				for night := range c.Nights {
					covers = covers && (!stays(first, hut, night) || stays(m, hut, night))
				}
			}
			if !covers {
				continue
			}
			found++
			if now := accepted(t, c, without(l, m.Id)); !slices.Contains(now, first.Id) {
				t.Errorf("%d is cancelled, %d is not accepted: %v", m.Id, first.Id, now)
			}
		}
	})
	if found < 50 {
		t.Errorf("just %d bookings that leave enough", found)
	}
}

// TestP2_14: all people are somewhere; nobody sleeps worse than need be.
func TestP2_14(t *testing.T) {
	eachCase(t, 14, 300, func(r *rand.Rand, c api.Chain, l []api.Message) {
		for hut := range c.Huts {
			for night := range c.Nights {
				left, _ := beds.Left(c, l, hut, night)
				for _, people := range []int{0, 1, left, left + 1, left + c.Huts[hut].Emergency, left + c.Huts[hut].Emergency + 1, r.Intn(10), api.MaxPeople} {
					bed, emergency, floor, e := beds.LetIn(c, l, hut, night, people)
					if e != api.OK || bed+emergency+floor != people || min(bed, emergency, floor) < 0 || bed > left || emergency > c.Huts[hut].Emergency {
						t.Errorf("LetIn of %d in %d, %d people = %d, %d, %d, %d", hut, night, people, bed, emergency, floor, e)
					}
					if emergency > 0 && bed < left || floor > 0 && (bed < left || emergency < c.Huts[hut].Emergency) {
						t.Errorf("LetIn of %d in %d, %d people = %d, %d, %d: a better place is free", hut, night, people, bed, emergency, floor)
					}
				}
			}
		}
	})
}

// TestP2_15: without the bookings of Release the request is accepted, without
// fewer it is not.
func TestP2_15(t *testing.T) {
	eachCase(t, 15, 300, func(r *rand.Rand, c api.Chain, l []api.Message) {
		waiting, _ := beds.Waiting(c, l)
		for _, id := range waiting {
			cancelled, e := beds.Release(c, l, id)
			if e != api.OK {
				continue
			}
			if now := accepted(t, c, without(l, cancelled...)); !slices.Contains(now, id) || !slices.IsSorted(cancelled) {
				t.Errorf("Release of %d = %v, but then %v", id, cancelled, now)
			}
			booked := accepted(t, c, l)
			for count := range len(cancelled) {
				eachSubset(booked, count, func(chosen []int) bool {
					if slices.Contains(accepted(t, c, without(l, chosen...)), id) {
						t.Errorf("Release of %d = %v, but %v are enough", id, cancelled, chosen)
					}
					return false
				})
			}
		}
	})
}
