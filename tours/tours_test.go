package tours_test

import (
	"reflect"
	"slices"
	"testing"

	"bivouac/api"
	"bivouac/tours"
)

// changed returns the tour T with a change.
func changed(change func(t *api.Tour)) api.Tour {
	t := exampleTour()
	change(&t)
	return t
}

// TestP3_2_Bed: the examples, and strangers from 0 to their limit.
func TestP3_2_Bed(t *testing.T) {
	large := lineTour(2, 2)
	large.Chain.Huts = []api.Hut{{Beds: 20, Emergency: 20}, {Beds: 20, Emergency: 19}}
	for i, x := range []struct {
		tour              api.Tour
		people, strangers int
		want              [][]int // by huts and nights
	}{
		{exampleTour(), 1, 1, [][]int{{3, 3, 2, 2}, {2, 2, 0, 2}}},
		{exampleTour(), 1, 0, [][]int{{2, 3, 2, 2}, {2, 2, 0, 2}}},
		{exampleTour(), 2, 0, [][]int{{3, 3, 2, 2}, {2, 2, 0, 2}}},
		{exampleTour(), 1, 2, [][]int{{3, 0, 3, 3}, {0, 0, 0, 0}}},
		{exampleTour(), 1, 3, [][]int{{0, 0, 3, 3}, {0, 0, 0, 0}}},
		{exampleTour(), 1, 4, [][]int{{0, 0, 0, 0}, {0, 0, 0, 0}}},
		{exampleTour(), api.MaxBeds, api.MaxStrangers, [][]int{{0, 0, 0, 0}, {0, 0, 0, 0}}},
		{large, 20, 0, [][]int{{2, 2}, {2, 2}}},
		{large, 20, 1, [][]int{{3, 3}, {3, 3}}},
		{large, 20, 19, [][]int{{3, 3}, {3, 3}}},
		{large, 20, 20, [][]int{{3, 3}, {0, 0}}},
		{large, 20, 21, [][]int{{0, 0}, {0, 0}}},
		{large, 1, 39, [][]int{{3, 3}, {0, 0}}},
		{large, 20, api.MaxStrangers, [][]int{{0, 0}, {0, 0}}},
	} {
		x.tour.People, x.tour.Strangers = x.people, x.strangers
		checkBeds(t, i, x.tour, x.want)
	}
}

func checkBeds(t *testing.T, i int, tour api.Tour, want [][]int) {
	t.Helper()
	for hut, row := range want {
		for night, bed := range row {
			if got, e := tours.Bed(tour, hut, night); got != bed || e != api.OK {
				t.Errorf("%d: Bed of %d in %d = %d, %d, want %d", i, hut, night, got, e, bed)
			}
		}
	}
}

// TestP3_2_own: the own booking counts if it is accepted, not cancelled, and for
// enough people; just where and when it has a stay.
func TestP3_2_own(t *testing.T) {
	cancelled := changed(func(t *api.Tour) { t.Messages = append(t.Messages, cancel(5)) })
	for i, x := range []struct {
		tour                  api.Tour
		id, people, strangers int
		want                  [][]int
	}{
		{exampleTour(), 5, 1, 1, [][]int{{1, 1, 2, 2}, {2, 2, 1, 2}}},
		{exampleTour(), 5, 2, 0, [][]int{{1, 1, 2, 2}, {2, 2, 1, 2}}},
		{exampleTour(), 5, 2, api.MaxStrangers, [][]int{{1, 1, 0, 0}, {0, 0, 1, 0}}},
		{exampleTour(), 9, 1, api.MaxStrangers, [][]int{{0, 1, 1, 1}, {0, 0, 0, 0}}},
		// for too few people: as without a booking
		{exampleTour(), 5, 3, 0, [][]int{{3, 0, 3, 3}, {0, 0, 0, 0}}},
		{exampleTour(), 9, 2, 1, [][]int{{3, 0, 3, 3}, {0, 0, 0, 0}}},
		// it waits
		{exampleTour(), 3, 1, 1, [][]int{{3, 3, 2, 2}, {2, 2, 0, 2}}},
		{exampleTour(), 8, 1, 4, [][]int{{0, 0, 0, 0}, {0, 0, 0, 0}}},
		// there is none
		{exampleTour(), 7, 1, 1, [][]int{{3, 3, 2, 2}, {2, 2, 0, 2}}},
		{exampleTour(), 0, 1, 1, [][]int{{3, 3, 2, 2}, {2, 2, 0, 2}}},
		{exampleTour(), api.MaxBooking, 1, 1, [][]int{{3, 3, 2, 2}, {2, 2, 0, 2}}},
		// 5 is cancelled, so that 3 and 8 are accepted, and 9 waits
		{cancelled, 5, 1, 1, [][]int{{2, 3, 3, 2}, {2, 2, 0, 0}}},
		{cancelled, 3, 1, api.MaxStrangers, [][]int{{0, 1, 1, 0}, {0, 0, 0, 0}}},
		{cancelled, 9, 1, api.MaxStrangers, [][]int{{0, 0, 0, 0}, {0, 0, 0, 0}}},
	} {
		tour := x.tour
		tour.Id, tour.People, tour.Strangers = x.id, x.people, x.strangers
		checkBeds(t, i, tour, x.want)
	}
}

// TestP3_3_Day: the examples; a day leads from each place to itself, and to
// others until Dusk.
func TestP3_3_Day(t *testing.T) {
	at := func(start, dusk int) api.Tour {
		return changed(func(t *api.Tour) { t.Start, t.Dusk, t.Late = start, dusk, 2880 })
	}
	for i, x := range []struct {
		tour           api.Tour
		from, to, want int
		e              api.Errno
	}{
		{exampleTour(), 1, 3, 495, api.OK}, {exampleTour(), 3, 0, 540, api.OK}, {exampleTour(), 1, 0, 0, api.ErrNone},
		{exampleTour(), 1, 1, 300, api.OK}, {exampleTour(), 0, 3, 615, api.OK}, {exampleTour(), 2, 0, 700, api.OK},
		{at(300, 495), 1, 3, 495, api.OK}, {at(300, 494), 1, 3, 0, api.ErrNone},
		{at(300, 300), 0, 0, 300, api.OK}, {at(300, 300), 0, 1, 0, api.ErrNone},
		{at(0, 0), 2, 2, 0, api.OK}, {at(2880, 2880), 2, 2, 2880, api.OK}, {at(2880, 2880), 3, 0, 0, api.ErrNone},
		{at(0, 2880), 3, 1, 360, api.OK}, {at(2640, 2880), 3, 0, 2880, api.OK}, {at(2641, 2880), 3, 0, 0, api.ErrNone},
		// the path 2 is not open any more
		{at(701, 2880), 2, 3, 0, api.ErrNone}, {at(700, 2880), 2, 3, 760, api.OK},
	} {
		if got, e := tours.Day(x.tour, x.from, x.to); got != x.want || e != x.e {
			t.Errorf("%d: Day from %d to %d = %d, %d, want %d, %d", i, x.from, x.to, got, e, x.want, x.e)
		}
	}
}

// TestP3_4_Sound: the examples, and each day that may be the first wrong one.
func TestP3_4_Sound(t *testing.T) {
	line := lineTour(3, 4)
	fullAt := func(hut int) api.Tour {
		t := lineTour(3, 4)
		t.Messages = []api.Message{request(0, 0, 3, stay(hut, hut, hut))}
		return t
	}
	closedAt := func(path int) api.Tour {
		t := lineTour(3, 4)
		t.Net = closed(t.Net, path)
		return t
	}
	home := lineTour(1, 1)
	home.To = 0
	for i, x := range []struct {
		tour api.Tour
		huts []int
		want int
	}{
		{exampleTour(), []int{1}, -1}, {exampleTour(), []int{0, 1}, -1}, {exampleTour(), []int{0, 0, 1}, 2}, {exampleTour(), nil, 0},
		{exampleTour(), []int{}, 0}, {exampleTour(), []int{0}, 1}, {exampleTour(), []int{0, 0, 0, 1}, -1}, {exampleTour(), []int{1, 0}, 2},
		{exampleTour(), []int{1, 1}, -1}, {exampleTour(), []int{1, 1, 1}, 2}, {exampleTour(), []int{0, 0, 0, 0}, 4}, {exampleTour(), []int{0, 1, 1, 0}, 2},
		{line, []int{0, 1, 2}, -1}, {line, []int{0, 1, 2, 2}, -1}, {line, []int{0, 1}, 2}, {line, []int{0, 2}, 1}, {line, []int{1, 2}, 0},
		{fullAt(0), []int{0, 1, 2}, 0}, {fullAt(1), []int{0, 1, 2}, 1}, {fullAt(2), []int{0, 1, 2}, 2}, {fullAt(1), []int{0, 0, 1, 2}, -1},
		{closedAt(0), []int{0, 1, 2}, 0}, {closedAt(1), []int{0, 1, 2}, 1}, {closedAt(2), []int{0, 1, 2}, 2}, {closedAt(3), []int{0, 1, 2}, 3},
		// the day does not lead there, and no bed is there either
		{fullAt(1), []int{1}, 0},
		{home, nil, -1}, {home, []int{0}, 1},
	} {
		if got, e := tours.Sound(x.tour, x.huts); got != x.want || e != api.OK {
			t.Errorf("%d: Sound of %v = %d, %d, want %d", i, x.huts, got, e, x.want)
		}
	}
}

// waitingTour returns a tour with two huts, the second of which has beds just in
// the last night.
func waitingTour(nights int) api.Tour {
	t := lineTour(2, nights)
	if nights > 1 {
		t.Messages = []api.Message{request(0, 0, 4, stay(1, 0, nights-2))}
	}
	return t
}

// diamondTour returns a tour with two nights in one of the huts 1 and 3, then in
// one of 0 and 2; 0 is full in the night 1 if told.
func diamondTour(full bool) api.Tour {
	t := api.Tour{
		Net:    api.Net{Places: 6},
		Party:  api.Party{Grade: 1, Pace: span(100, 100)},
		Chain:  api.Chain{Nights: 5, Huts: slices.Repeat([]api.Hut{{Beds: 2}}, 4)},
		Places: []int{3, 2, 4, 1},
		People: 2, Start: 400, Dusk: 500, Late: 600, To: 5, Id: -1,
	}
	for _, x := range [][2]int{{0, 1}, {0, 2}, {1, 3}, {1, 4}, {2, 3}, {2, 4}, {3, 5}, {4, 5}} {
		t.Net.Paths = append(t.Net.Paths, easy(x[0], x[1], 100))
	}
	if full {
		t.Messages = []api.Message{request(0, 0, 1, stay(0, 1, 1))}
	}
	return t
}

// TestP3_5_Plan: the example, tours of no night and of all nights, and several
// shortest ones.
func TestP3_5_Plan(t *testing.T) {
	forwards := diamondTour(false)
	forwards.Places = []int{1, 2, 3, 4}
	home := lineTour(3, 3)
	home.To = 0
	for i, x := range []struct {
		tour api.Tour
		want []int
		e    api.Errno
	}{
		{exampleTour(), []int{1}, api.OK},
		{changed(func(t *api.Tour) { t.Strangers = 2 }), nil, api.ErrNone},
		{changed(func(t *api.Tour) { t.From, t.To = 3, 0 }), nil, api.OK},
		{changed(func(t *api.Tour) { t.From, t.To = 0, 3 }), nil, api.OK},
		{changed(func(t *api.Tour) { t.From, t.To, t.Dusk = 0, 3, 600 }), []int{0}, api.OK},
		{changed(func(t *api.Tour) { t.Net.Paths = nil }), nil, api.ErrNone},
		{changed(func(t *api.Tour) { t.Net.Paths, t.To = nil, 1 }), nil, api.OK},
		{changed(func(t *api.Tour) { t.Dusk = 300 }), nil, api.ErrNone},
		{home, nil, api.OK},
		{lineTour(3, 3), []int{0, 1, 2}, api.OK},
		{lineTour(3, 2), nil, api.ErrNone},
		{lineTour(3, 20), []int{0, 1, 2}, api.OK},
		{lineTour(6, 6), []int{0, 1, 2, 3, 4, 5}, api.OK},
		{lineTour(6, 5), nil, api.ErrNone},
		{lineTour(1, 1), []int{0}, api.OK},
		{waitingTour(2), []int{0, 1}, api.OK},
		{waitingTour(4), []int{0, 0, 0, 1}, api.OK},
		{waitingTour(20), append(make([]int, 19), 1), api.OK},
		{diamondTour(false), []int{1, 0}, api.OK},
		{diamondTour(true), []int{1, 2}, api.OK},
		{forwards, []int{0, 2}, api.OK},
	} {
		if huts, e := tours.Plan(x.tour); !slices.Equal(huts, x.want) || e != x.e {
			t.Errorf("%d: Plan = %v, %d, want %v, %d", i, huts, e, x.want, x.e)
		}
	}
}

// TestP3_6_Traps: the example, traps in each night, and tours without any.
func TestP3_6_Traps(t *testing.T) {
	stuck := changed(func(t *api.Tour) { t.Net.Paths = nil })
	away := changed(func(t *api.Tour) { t.Net.Paths, t.From = nil, 0 })
	ended := lineTour(2, 4)
	ended.Net = closed(ended.Net, 2)
	// In the last night the hut 0 is too far from To; the hut 1 is full later on.
	late := lineTour(2, 3)
	full := lineTour(2, 4)
	full.Messages = []api.Message{request(0, 0, 4, stay(1, 2, 3))}
	aside := diamondTour(false)
	aside.Net = closed(aside.Net, 7)
	for i, x := range []struct {
		tour api.Tour
		want [][2]int
	}{
		{exampleTour(), [][2]int{{0, 3}}},
		{stuck, [][2]int{{0, 0}, {0, 1}, {0, 2}, {0, 3}}},
		{away, nil},
		{changed(func(t *api.Tour) { t.Net.Paths, t.To = nil, 1 }), nil},
		{changed(func(t *api.Tour) { t.To = 3 }), nil},
		{changed(func(t *api.Tour) { t.Strangers = 4 }), nil},
		{changed(func(t *api.Tour) { t.Strangers = 2 }), [][2]int{{0, 0}}},
		{ended, [][2]int{{0, 0}, {0, 1}, {1, 1}, {0, 2}, {1, 2}, {0, 3}, {1, 3}}},
		{late, [][2]int{{0, 2}}},
		{lineTour(3, 2), [][2]int{{0, 0}, {0, 1}, {1, 1}}},
		{full, [][2]int{{0, 1}, {0, 2}, {0, 3}}},
		{aside, [][2]int{{2, 1}, {2, 2}, {2, 3}, {1, 4}, {2, 4}, {3, 4}}},
	} {
		if traps, e := tours.Traps(x.tour); !slices.Equal(traps, x.want) || e != api.OK {
			t.Errorf("%d: Traps = %v, %d, want %v", i, traps, e, x.want)
		}
	}
}

// TestP3_7_Delays: the example, days without a way, and the limits of Dusk.
func TestP3_7_Delays(t *testing.T) {
	home := func(start, dusk int) api.Tour {
		return changed(func(t *api.Tour) { t.To, t.Start, t.Dusk, t.Late = 1, start, dusk, 2880 })
	}
	for i, x := range []struct {
		tour api.Tour
		huts []int
		want []int
		e    api.Errno
	}{
		{exampleTour(), []int{1}, []int{505, 460}, api.OK},
		{exampleTour(), []int{0, 1}, []int{700, 505, 460}, api.OK},
		{exampleTour(), []int{1, 1}, []int{505, 700, 460}, api.OK},
		{exampleTour(), []int{0, 0, 0, 1}, []int{700, 700, 700, 505, 460}, api.OK},
		{exampleTour(), nil, nil, api.ErrNone},
		{exampleTour(), []int{0, 0, 1}, nil, api.ErrNone},
		{exampleTour(), []int{0}, nil, api.ErrNone},
		{home(300, 700), nil, []int{700}, api.OK},
		{home(300, 300), nil, []int{300}, api.OK},
		{home(0, 0), nil, []int{0}, api.OK},
		{home(2880, 2880), []int{0}, []int{2880, 2880}, api.OK},
		{lineTour(2, 2), []int{0, 1}, []int{400, 400, 400}, api.OK},
		// the path 2 closes sooner than the party would be late
		{changed(func(t *api.Tour) { t.Dusk, t.Late = 2880, 2880 }), []int{1}, []int{565, 2640}, api.OK},
	} {
		if minutes, e := tours.Delays(x.tour, x.huts); !slices.Equal(minutes, x.want) || e != x.e {
			t.Errorf("%d: Delays of %v = %v, %d, want %v, %d", i, x.huts, minutes, e, x.want, x.e)
		}
	}
}

// TestP3_8_Escapes: the example, villages and huts that are and are not reached,
// and huts in which no bed is sure.
func TestP3_8_Escapes(t *testing.T) {
	// The sure arrival at the hut 1 (the place 3) is 495; 0 is reached at 735, 1 at 855.
	late := func(late int, villages ...int) api.Tour {
		return changed(func(t *api.Tour) { t.Late, t.Villages = late, villages })
	}
	full := late(900)
	full.Messages = []api.Message{request(0, 0, 3, stay(0, 0, 0))}
	fuller := late(900)
	fuller.Messages = []api.Message{request(0, 0, 2, stay(0, 0, 0))}
	fuller.Chain.Huts[0].Emergency = 0
	own := copyTour(fuller)
	own.Id = 0
	two := late(900, 0)
	two.Messages = nil
	for i, x := range []struct {
		tour api.Tour
		huts []int
		want []int
		e    api.Errno
	}{
		{exampleTour(), []int{1}, []int{0}, api.OK},
		{exampleTour(), nil, nil, api.ErrNone},
		{exampleTour(), []int{0, 0, 1}, nil, api.ErrNone},
		{late(735, 0), []int{1}, []int{0}, api.OK},
		{late(734, 0), []int{1}, []int{-1}, api.OK},
		{late(855), []int{1}, []int{1}, api.OK},
		{late(854), []int{1}, []int{-1}, api.OK},
		{late(900, 0, 1), []int{1}, []int{0}, api.OK},
		{late(900, 1, 2), []int{1}, []int{1}, api.OK},
		{late(2880, 2), []int{1}, []int{1}, api.OK},
		// the hut 0 has no bed in this night; its place may be a village, too
		{full, []int{1}, []int{1}, api.OK},
		{fuller, []int{1}, []int{-1}, api.OK},
		{own, []int{1}, []int{1}, api.OK},
		{changed(func(t *api.Tour) { t.Messages, t.Chain.Huts[0], t.Villages = nil, api.Hut{}, []int{1} }), []int{1}, []int{1}, api.OK},
		{changed(func(t *api.Tour) { t.Messages, t.Chain.Huts[0], t.Villages = nil, api.Hut{}, []int{2} }), []int{1}, []int{-1}, api.OK},
		// the own place takes the party in if it is a village, not as a hut
		{late(734, 3), []int{1}, []int{3}, api.OK},
		{late(700, 0, 3), []int{1, 1}, []int{3, 0}, api.OK},
		{changed(func(t *api.Tour) { t.Messages, t.Start, t.Dusk, t.Late, t.To = nil, 300, 300, 300, 1 }), []int{0}, []int{-1}, api.OK},
		{changed(func(t *api.Tour) { t.Start, t.Dusk, t.Late, t.To, t.Villages = 300, 300, 300, 1, []int{1} }), []int{0}, []int{1}, api.OK},
		// in each night from the minute of this arrival: 300, 495, 300
		{two, []int{0, 1, 1}, []int{0, 0, 0}, api.OK},
		{late(700, 0), []int{0, 1}, []int{3, -1}, api.OK},
		{late(700, 2), []int{0, 1}, []int{2, -1}, api.OK},
		// no hut, no night
		{changed(func(t *api.Tour) { t.To = 1 }), nil, nil, api.OK},
	} {
		if places, e := tours.Escapes(x.tour, x.huts); !slices.Equal(places, x.want) || e != x.e {
			t.Errorf("%d: Escapes of %v = %v, %d, want %v, %d", i, x.huts, places, e, x.want, x.e)
		}
	}
}

// zigzagTour returns a tour in which the party has to change between the huts 0
// and 1 each night, as they have beds in turns, and is in the hut 2 in the last
// one, before which it has no beds.
func zigzagTour(nights int) api.Tour {
	t := lineTour(3, nights)
	t.Net.Paths = append(t.Net.Paths, easy(2, 1, 100), easy(1, 3, 100))
	t.Messages = []api.Message{request(50, 50, 4, stay(2, 0, nights-2))}
	for night := range nights - 1 {
		t.Messages = append(t.Messages, request(60+night, night, 3, stay(1-night%2, night, night)))
	}
	return t
}

// TestP3_9_Book: the example, and the stays and the stamp of other requests.
func TestP3_9_Book(t *testing.T) {
	long := lineTour(2, 5)
	long.Messages = []api.Message{request(4, 9, 3, stay(1, 0, 2)), cancel(77)}
	gone := lineTour(1, 1)
	gone.Messages = []api.Message{request(4, 70, 4, stay(0, 0, 0)), cancel(4), cancel(5)}
	for i, x := range []struct {
		tour api.Tour
		id   int
		want api.Message
	}{
		{exampleTour(), 7, request(7, 31, 1, stay(1, 0, 0))},
		{exampleTour(), 0, request(0, 31, 1, stay(1, 0, 0))},
		{exampleTour(), api.MaxBooking, request(99, 31, 1, stay(1, 0, 0))},
		{changed(func(t *api.Tour) { t.Strangers = 80 }), 7, request(7, 31, 1, stay(1, 0, 0))},
		{changed(func(t *api.Tour) { t.Id, t.People = 5, 2 }), 7, request(7, 31, 2, stay(1, 0, 0))},
		{changed(func(t *api.Tour) { t.Messages = nil }), 7, request(7, 0, 1, stay(1, 0, 0))},
		{changed(func(t *api.Tour) { t.Messages = []api.Message{cancel(1)} }), 7, request(7, 0, 1, stay(1, 0, 0))},
		{changed(func(t *api.Tour) { t.Messages = []api.Message{request(1, 0, 1, stay(0, 0, 0))} }), 7, request(7, 1, 1, stay(1, 0, 0))},
		{lineTour(3, 3), 9, request(9, 0, 2, stay(0, 0, 0), stay(1, 1, 1), stay(2, 2, 2))},
		{long, 9, request(9, 10, 2, stay(0, 0, 2), stay(1, 3, 3))},
		{gone, 9, request(9, 71, 2, stay(0, 0, 0))},
		{diamondTour(true), 9, request(9, 1, 2, stay(1, 0, 0), stay(2, 1, 1))},
	} {
		if m, e := tours.Book(x.tour, x.id); !reflect.DeepEqual(m, x.want) || e != api.OK {
			t.Errorf("%d: Book = %v, %d, want %v", i, m, e, x.want)
		}
	}
}

// TestP3_9_none: no itinerary with beds that are left, or one without nights;
// emergency places and the own booking do not count.
func TestP3_9_none(t *testing.T) {
	for i, tour := range []api.Tour{
		changed(func(t *api.Tour) { t.Net.Paths = nil }),
		changed(func(t *api.Tour) { t.From = 0; t.To = 3 }),
		changed(func(t *api.Tour) { t.To = 1 }),
		changed(func(t *api.Tour) { t.People = 3 }),
		changed(func(t *api.Tour) { t.Chain.Huts[1] = api.Hut{Beds: 0, Emergency: 20} }),
		changed(func(t *api.Tour) {
			t.Messages, t.Id = []api.Message{request(5, 0, 2, stay(1, 0, 3))}, 5
		}),
		lineTour(3, 2),
		// ErrNone comes before ErrMany
		changed(func(t *api.Tour) { t.To, t.Messages = 1, []api.Message{request(1, api.MaxStamp, 1, stay(0, 0, 0))} }),
	} {
		if m, e := tours.Book(tour, 7); !isZero([]any{m}) || e != api.ErrNone {
			t.Errorf("%d: Book = %v, %d", i, m, e)
		}
	}
}

// TestP3_9_many: the limits of the stamp, of the messages and of the stays.
func TestP3_9_many(t *testing.T) {
	stamped := func(stamp int, more ...api.Message) api.Tour {
		return changed(func(t *api.Tour) { t.Messages = append(more, request(1, stamp, 1, stay(0, 0, 0))) })
	}
	// messages are so many different ones, the first one again and again.
	messages := func(different, all int) api.Tour {
		return changed(func(t *api.Tour) {
			t.Messages = cancels(different)
			for len(t.Messages) < all {
				t.Messages = append(t.Messages, cancel(10))
			}
		})
	}
	for i, x := range []struct {
		tour  api.Tour
		stays int
		stamp int
		e     api.Errno
	}{
		{stamped(api.MaxStamp - 1), 1, api.MaxStamp, api.OK},
		{stamped(api.MaxStamp), 0, 0, api.ErrMany},
		{stamped(api.MaxStamp, cancel(1)), 0, 0, api.ErrMany},
		{stamped(api.MaxStamp-1, cancel(1)), 1, api.MaxStamp, api.OK},
		{messages(api.MaxMessages-1, api.MaxMessages-1), 1, 0, api.OK},
		{messages(api.MaxMessages, api.MaxMessages), 0, 0, api.ErrMany},
		{messages(api.MaxMessages-1, api.MaxMessages), 1, 0, api.OK},
		{messages(1, api.MaxMessages), 1, 0, api.OK},
		{zigzagTour(6), 6, 51, api.OK},
		{zigzagTour(7), 0, 0, api.ErrMany},
		{zigzagTour(20), 0, 0, api.ErrMany},
		{waitingTour(20), 2, 1, api.OK},
	} {
		if m, e := tours.Book(x.tour, 7); e != x.e || len(m.Stays) != x.stays || m.Stamp != x.stamp || e != api.OK && !isZero([]any{m}) {
			t.Errorf("%d: Book = %v, %d, want %d", i, m, e, x.e)
		}
	}
}

// TestP3_9_taken: an Id that some message has is none for a new request, be it
// accepted, waiting, cancelled, or just that of a cancellation; before ErrNone
// and ErrMany.
func TestP3_9_taken(t *testing.T) {
	cancelled := func(t *api.Tour) { t.Messages = append(t.Messages, cancel(5), cancel(7)) }
	full := func(t *api.Tour) { t.Messages = cancels(api.MaxMessages) }
	for i, x := range []struct {
		tour api.Tour
		id   int
		e    api.Errno
	}{
		{exampleTour(), 5, api.ErrArg}, {exampleTour(), 3, api.ErrArg}, {exampleTour(), 4, api.OK},
		{exampleTour(), -1, api.ErrArg}, {exampleTour(), api.MaxBooking + 1, api.ErrArg},
		{changed(cancelled), 5, api.ErrArg}, {changed(cancelled), 7, api.ErrArg}, {changed(cancelled), 6, api.OK},
		{changed(full), 49, api.ErrArg}, {changed(full), 50, api.ErrMany},
		{changed(func(t *api.Tour) { full(t); t.To = 1 }), 49, api.ErrArg}, {changed(func(t *api.Tour) { full(t); t.To = 1 }), 50, api.ErrNone},
		// the own Id is no other one
		{changed(func(t *api.Tour) { t.Id = 7 }), 7, api.OK},
	} {
		if m, e := tours.Book(x.tour, x.id); e != x.e || e != api.OK && !isZero([]any{m}) {
			t.Errorf("%d: Book of %d = %v, %d, want %d", i, x.id, m, e, x.e)
		}
	}
}

// cancels returns cancellations of so many Ids from 10 on.
func cancels(count int) []api.Message {
	var l []api.Message
	for i := range count {
		l = append(l, cancel(10+i))
	}
	return l
}
