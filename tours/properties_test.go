package tours_test

import (
	"math/rand"
	"reflect"
	"slices"
	"testing"

	"bivouac/api"
	"bivouac/beds"
	"bivouac/paths"
	"bivouac/tours"
)

// TestP3_2_all: in any tours Bed is what the definition says.
func TestP3_2_all(t *testing.T) {
	kinds := map[int]int{}
	eachCase(t, 2, 500, func(r *rand.Rand, tour api.Tour) {
		for hut := range tour.Chain.Huts {
			for night := range tour.Chain.Nights {
				want := bedOf(tour, hut, night)
				kinds[want]++
				if bed, e := tours.Bed(tour, hut, night); bed != want || e != api.OK {
					t.Errorf("Bed of %d in %d = %d, %d, want %d", hut, night, bed, e, want)
				}
			}
		}
	})
	if min(kinds[0], kinds[1], kinds[2], kinds[3]) < 50 {
		t.Errorf("just so many beds of each kind: %v", kinds)
	}
}

// TestP3_3_all: in any tours Day is the sure arrival, if it is not after Dusk.
func TestP3_3_all(t *testing.T) {
	eachCase(t, 3, 300, func(r *rand.Rand, tour api.Tour) {
		for from := range tour.Net.Places {
			for to := range tour.Net.Places {
				want := sureAt(tour, from, to)
				arrival, e := tours.Day(tour, from, to)
				if want < 0 && (e != api.ErrNone || arrival != 0) || want >= 0 && (e != api.OK || arrival != want) {
					t.Errorf("Day from %d to %d = %d, %d, want %d", from, to, arrival, e, want)
				}
			}
		}
	})
}

// TestP3_4_all: in any tours each itinerary is sound up to the day that the
// definition says.
func TestP3_4_all(t *testing.T) {
	eachCase(t, 4, 100, func(r *rand.Rand, tour api.Tour) {
		eachItinerary(tour, func(huts []int) {
			if day, e := tours.Sound(tour, huts); day != unsound(tour, huts) || e != api.OK {
				t.Errorf("Sound of %v = %d, %d, want %d", huts, day, e, unsound(tour, huts))
			}
		})
	})
}

// TestP3_5_all: in any tours Plan is the first of the shortest itineraries.
// This is the first half of P3.11, too.
func TestP3_5_all(t *testing.T) {
	lengths, several := map[int]int{}, 0
	eachCase(t, 5, 1200, func(r *rand.Rand, tour api.Tour) {
		huts, ok := plan(t, tour)
		sound := soundOnes(tour)
		if ok != (len(sound) > 0) || ok && !slices.Equal(huts, sound[0]) {
			t.Errorf("Plan = %v, %v, of %v", huts, ok, sound)
		}
		if ok {
			lengths[len(huts)]++
		}
		if len(sound) > 1 && len(sound[0]) == len(sound[1]) {
			several++
		}
	})
	if min(lengths[0], lengths[1], lengths[2], several) < 20 {
		t.Errorf("just so many plans of each length: %v; %d with several shortest ones", lengths, several)
	}
}

// TestP3_6_all: in any tours Traps are what the definition says.
func TestP3_6_all(t *testing.T) {
	found := 0
	eachCase(t, 6, 300, func(r *rand.Rand, tour api.Tour) {
		want := trapsOf(tour)
		found += len(want)
		if traps, e := tours.Traps(tour); !slices.Equal(traps, want) || e != api.OK {
			t.Errorf("Traps = %v, %d, want %v", traps, e, want)
		}
	})
	if found < 200 {
		t.Errorf("just %d traps", found)
	}
}

// ends returns the places from and to which the days of an itinerary lead.
func ends(tour api.Tour, huts []int) [][2]int {
	var ends [][2]int
	place := tour.From
	for _, hut := range huts {
		ends = append(ends, [2]int{place, tour.Places[hut]})
		place = tour.Places[hut]
	}
	return append(ends, [2]int{place, tour.To})
}

// anySound returns one of the sound itineraries of a tour.
func anySound(r *rand.Rand, tour api.Tour) ([]int, bool) {
	sound := soundOnes(tour)
	if len(sound) == 0 {
		return nil, false
	}
	return sound[r.Intn(len(sound))], true
}

// TestP3_7_all: in any tours a start at the minute of Delays is in time, and a
// later one is not.
func TestP3_7_all(t *testing.T) {
	eachCase(t, 7, 300, func(r *rand.Rand, tour api.Tour) {
		huts, ok := anySound(r, tour)
		minutes, e := tours.Delays(tour, huts)
		if !ok {
			if e != api.ErrNone || len(minutes) > 0 {
				t.Errorf("Delays of %v = %v, %d", huts, minutes, e)
			}
			return
		}
		days := ends(tour, huts)
		if e != api.OK || len(minutes) != len(days) {
			t.Fatalf("Delays of %v = %v, %d", huts, minutes, e)
		}
		for i, day := range days {
			for _, start := range []int{minutes[i], minutes[i] + 1, tour.Start, tour.Dusk} {
				if start > api.MaxMinute {
					continue
				}
				sure, _, _ := paths.Arrive(tour.Net, tour.Party, day[0], start)
				if inTime := sure[day[1]] >= 0 && sure[day[1]] <= tour.Dusk; inTime != (start <= minutes[i]) {
					t.Errorf("Delays of %v = %v; wrong for a start at %d on the day %d", huts, minutes, start, i)
				}
			}
		}
	})
}

// shelters returns the places to which the party can go in the night of an
// itinerary by the definition, and the sure arrivals there.
func shelters(tour api.Tour, huts []int, night int) (places, arrivals []int) {
	day := ends(tour, huts)[night]
	sure, _, _ := paths.Arrive(tour.Net, tour.Party, day[1], sureAt(tour, day[0], day[1]))
	for place := range tour.Net.Places {
		hut := slices.Index(tour.Places, place)
		open := hut >= 0 && hut != huts[night] && bedOf(tour, hut, night) != 0
		if (open || slices.Contains(tour.Villages, place)) && sure[place] >= 0 && sure[place] <= tour.Late {
			places = append(places, place)
		}
	}
	return places, sure
}

// TestP3_14: in any tours Escapes is the lowest place that takes the party in,
// and that it surely reaches by Late. This is P3.8, too.
func TestP3_14(t *testing.T) {
	found, lost := 0, 0
	eachCase(t, 14, 500, func(r *rand.Rand, tour api.Tour) {
		huts, ok := anySound(r, tour)
		escapes, e := tours.Escapes(tour, huts)
		if !ok {
			if e != api.ErrNone || len(escapes) > 0 {
				t.Errorf("Escapes of %v = %v, %d", huts, escapes, e)
			}
			return
		}
		if e != api.OK || len(escapes) != len(huts) {
			t.Fatalf("Escapes of %v = %v, %d", huts, escapes, e)
		}
		for night, place := range escapes {
			places, arrivals := shelters(tour, huts, night)
			if place < 0 {
				lost++
				if place != -1 || len(places) > 0 {
					t.Errorf("Escapes of %v = %v, not %v in the night %d", huts, escapes, places, night)
				}
				continue
			}
			found++
			if len(places) == 0 || place != places[0] || arrivals[place] > tour.Late {
				t.Errorf("Escapes of %v = %v, not %v in the night %d", huts, escapes, places, night)
			}
		}
	})
	if min(found, lost) < 50 {
		t.Errorf("just %d ways out, %d nights without", found, lost)
	}
}

// TestP3_9_all: in any tours Book is for the first of the shortest itineraries
// on which enough beds are left.
func TestP3_9_all(t *testing.T) {
	asked := 0
	eachCase(t, 9, 600, func(r *rand.Rand, tour api.Tour) {
		var want []int
		known := false
		eachItinerary(tour, func(huts []int) {
			left := func(hut, night int) bool {
				n, _ := beds.Left(tour.Chain, tour.Messages, hut, night)
				return n >= tour.People
			}
			if !known && broken(tour, huts, left) < 0 {
				want, known = huts, true
			}
		})
		m, e := tours.Book(tour, 77)
		if len(want) == 0 {
			if e != api.ErrNone || !isZero([]any{m}) {
				t.Errorf("Book = %v, %d, want none", m, e)
			}
			return
		}
		asked++
		if e != api.OK || m.Kind != api.Request || m.Id != 77 || m.People != tour.People || !slices.Equal(nights(m), want) {
			t.Errorf("Book = %v, %d, want %v", m, e, want)
		}
		for i := 1; i < len(m.Stays); i++ {
			if m.Stays[i].Hut == m.Stays[i-1].Hut {
				t.Errorf("Book = %v, with two stays for one", m)
			}
		}
	})
	if asked < 50 {
		t.Errorf("just %d requests", asked)
	}
}

// nights returns the huts of the stays of a request, night by night from 0 on;
// none if a night is missing.
func nights(m api.Message) []int {
	var huts []int
	for _, s := range m.Stays {
		if s.Nights.Low != len(huts) {
			return nil
		}
		huts = append(huts, slices.Repeat([]int{s.Hut}, s.Nights.High-s.Nights.Low+1)...)
	}
	return huts
}

// TestP3_10: on a sound itinerary the party arrives by Dusk, whatever time the
// paths take, and has beds or emergency places, however many strangers are there.
func TestP3_10(t *testing.T) {
	eachCase(t, 10, 400, func(r *rand.Rand, tour api.Tour) {
		huts, ok := anySound(r, tour)
		if day, e := tours.Sound(tour, huts); e != api.OK || ok != (day == -1) {
			t.Errorf("Sound of %v = %d, %d", huts, day, e)
		}
		if !ok {
			return
		}
		for i, day := range ends(tour, huts) {
			checkWalk(t, r, tour, i, day)
		}
		for night, hut := range huts {
			checkNight(t, tour, hut, night)
		}
	})
}

// checkWalk checks that the best route of a day ends by Dusk.
func checkWalk(t *testing.T, r *rand.Rand, tour api.Tour, i int, day [2]int) {
	t.Helper()
	route, _, e := paths.Route(tour.Net, tour.Party, day[0], tour.Start, day[1])
	if e != api.OK {
		t.Errorf("Route of the day %d, %v: %d", i, day, e)
	}
	for range 10 {
		minute := tour.Start
		for _, path := range route {
			for !isOpen(tour.Net.Paths[path], minute) && minute <= api.MaxMinute {
				minute++
			}
			time, _ := paths.Walk(tour.Net, tour.Party, path)
			minute += time.Low + r.Intn(time.High-time.Low+1)
		}
		if minute > tour.Dusk {
			t.Errorf("the party arrives at %d on the day %d, %v", minute, i, day)
		}
	}
}

func isOpen(path api.Path, minute int) bool {
	return slices.ContainsFunc(path.Opens, func(s api.Span) bool { return s.Low <= minute && minute <= s.High })
}

// checkNight checks that the party has places after any number of strangers.
func checkNight(t *testing.T, tour api.Tour, hut, night int) {
	t.Helper()
	if ownBooking(tour, hut, night) {
		held, _ := beds.Allocate(tour.Chain, tour.Messages)
		if !slices.ContainsFunc(held, func(h api.Held) bool { return h.Id == tour.Id && len(h.Beds) >= tour.People }) {
			t.Errorf("the party has no beds in the hut %d in the night %d", hut, night)
		}
		return
	}
	left, _ := beds.Left(tour.Chain, tour.Messages, hut, night)
	for strangers := range tour.Strangers + 1 {
		bed, emergency, _, _ := beds.LetIn(tour.Chain, tour.Messages, hut, night, strangers)
		if left-bed+tour.Chain.Huts[hut].Emergency-emergency < tour.People {
			t.Errorf("no places after %d strangers in the hut %d in the night %d", strangers, hut, night)
		}
	}
}

// TestP3_11: from a state that can occur a sound itinerary goes on if it is no
// trap, and none does if it is one.
func TestP3_11(t *testing.T) {
	goesOn, ends := 0, 0
	eachCase(t, 11, 200, func(r *rand.Rand, tour api.Tour) {
		traps, _ := tours.Traps(tour)
		sound := soundOnes(tour)
		if huts, ok := plan(t, tour); ok {
			if day, e := tours.Sound(tour, huts); day != -1 || e != api.OK || len(huts) > len(sound[0]) {
				t.Errorf("Plan = %v, not %v", huts, sound[0])
			}
		}
		eachItinerary(tour, func(huts []int) {
			if first := unsound(tour, huts); len(huts) == 0 || first >= 0 && first < len(huts) {
				return
			}
			night := len(huts) - 1
			trap := slices.Contains(traps, [2]int{huts[night], night})
			further := slices.ContainsFunc(sound, func(s []int) bool { return len(s) > night && slices.Equal(s[:night+1], huts) })
			if trap == further {
				t.Errorf("after %v a sound itinerary goes on or not; Traps = %v", huts, traps)
			}
			if further {
				goesOn++
			} else {
				ends++
			}
		})
	})
	if min(goesOn, ends) < 100 {
		t.Errorf("just %d itineraries go on, %d do not", goesOn, ends)
	}
}

// TestP3_12: with fewer strangers, a lower Start or a later Dusk all that was
// sound remains so.
func TestP3_12(t *testing.T) {
	eachCase(t, 12, 300, func(r *rand.Rand, tour api.Tour) {
		easier := copyTour(tour)
		switch r.Intn(3) {
		case 0:
			easier.Strangers = r.Intn(tour.Strangers + 1)
		case 1:
			easier.Start -= r.Intn(60)
		case 2:
			easier.Dusk += r.Intn(tour.Late - tour.Dusk + 1)
		}
		for _, huts := range soundOnes(tour) {
			if day, e := tours.Sound(easier, huts); day != -1 || e != api.OK {
				t.Errorf("Sound of %v = %d, %d in %+v", huts, day, e, easier)
			}
		}
		if !notLonger(t, easier, tour) {
			t.Errorf("Plan is longer in %+v", easier)
		}
	})
}

// TestP3_13: the request of Book is accepted, and its itinerary is sound then,
// whatever comes later.
func TestP3_13(t *testing.T) {
	kept := 0
	eachCase(t, 13, 800, func(r *rand.Rand, tour api.Tour) {
		m, e := tours.Book(tour, 99)
		if e != api.OK {
			return
		}
		kept++
		tour = copyTour(tour)
		tour.Id, tour.Messages = 99, append(tour.Messages, m)
		for i := range 4 {
			accepted, e := beds.Accepted(tour.Chain, tour.Messages)
			if e != api.OK || !slices.Contains(accepted, 99) {
				t.Errorf("with %v: Accepted = %v, %d", m, accepted, e)
			}
			for _, strangers := range []int{0, tour.Strangers, r.Intn(api.MaxStrangers), api.MaxStrangers} {
				tour.Strangers = strangers
				if day, e := tours.Sound(tour, nights(m)); day != -1 || e != api.OK {
					t.Errorf("with %v and %d strangers: Sound = %d, %d", m, strangers, day, e)
				}
			}
			later := randomRequest(r, tour.Chain, 40+i)
			later.Stamp = m.Stamp + 1 + r.Intn(3)
			tour.Messages = append([]api.Message{later}, tour.Messages...)
		}
	})
	if kept < 50 {
		t.Errorf("just %d requests", kept)
	}
}

// TestP0_8: a sound itinerary remains sound if a path is closed that need not
// stay open on any day, and does not if it must. With a lighter pack or one more
// path no tour becomes longer.
func TestP0_8(t *testing.T) {
	eachCase(t, 108, 200, func(r *rand.Rand, tour api.Tour) {
		lighter, wider := copyTour(tour), copyTour(tour)
		lighter.Party.Load = r.Intn(tour.Party.Load + 1)
		wider.Net.Paths = append(wider.Net.Paths, randomPath(r, tour.Net.Places))
		if !notLonger(t, lighter, tour) || !notLonger(t, wider, tour) {
			t.Errorf("Plan is longer in %+v or %+v", lighter, wider)
		}
		huts, ok := anySound(r, tour)
		if !ok {
			return
		}
		for path := range tour.Net.Paths {
			must := slices.ContainsFunc(ends(tour, huts), func(day [2]int) bool {
				vital, _ := paths.Vital(tour.Net, tour.Party, day[0], tour.Start, day[1], tour.Dusk)
				return slices.Contains(vital, path)
			})
			less := tour
			less.Net = closed(tour.Net, path)
			if day, e := tours.Sound(less, huts); (day != -1) != must || e != api.OK {
				t.Errorf("Sound of %v without the path %d = %d, %d", huts, path, day, e)
			}
		}
	})
}

// TestP0_9: no result depends on the order of the messages, nor on how often
// each of them comes.
func TestP0_9(t *testing.T) {
	eachCase(t, 109, 300, func(r *rand.Rand, tour api.Tour) {
		other := copyTour(tour)
		for _, m := range tour.Messages {
			if r.Intn(2) == 0 {
				other.Messages = append(other.Messages, m)
			}
		}
		r.Shuffle(len(other.Messages), func(i, j int) {
			other.Messages[i], other.Messages[j] = other.Messages[j], other.Messages[i]
		})
		huts, _ := anySound(r, tour)
		for _, f := range calls {
			for hut := range tour.Chain.Huts {
				a := arguments{hut: hut, night: tour.Chain.Nights - 1, from: tour.From, to: tour.To, id: 99, huts: huts}
				one, e := f.call(tour, a)
				two, d := f.call(other, a)
				if !reflect.DeepEqual(one, two) || e != d {
					t.Errorf("%s of %v: %v, %d, with %v: %v, %d", f.name, a, one, e, other.Messages, two, d)
				}
			}
		}
	})
}
