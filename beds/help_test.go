package beds_test

import (
	"cmp"
	"math/rand"
	"reflect"
	"slices"
	"testing"

	"bivouac/api"
	"bivouac/beds"
)

func stay(hut, low, high int) api.Stay {
	return api.Stay{Hut: hut, Nights: api.Span{Low: low, High: high}}
}

func request(id, stamp, people int, stays ...api.Stay) api.Message {
	return api.Message{Kind: api.Request, Id: id, Stamp: stamp, People: people, Stays: stays}
}

func cancel(id int) api.Message { return api.Message{Kind: api.Cancel, Id: id} }

// exampleChain is the chain C of the chapter.
func exampleChain() api.Chain {
	return api.Chain{Huts: []api.Hut{{Beds: 3, Emergency: 2}, {Beds: 2}}, Nights: 4}
}

// exampleMessages are the messages L of the chapter.
func exampleMessages() []api.Message {
	return []api.Message{
		request(5, 10, 2, stay(0, 0, 1), stay(1, 2, 2)),
		request(3, 20, 2, stay(0, 1, 2)),
		request(8, 20, 1, stay(0, 1, 1), stay(1, 2, 3)),
		request(9, 30, 1, stay(0, 1, 3)),
	}
}

// oneHut returns a chain of one hut without emergency places.
func oneHut(beds, nights int) api.Chain {
	return api.Chain{Huts: []api.Hut{{Beds: beds}}, Nights: nights}
}

func copyMessages(l []api.Message) []api.Message {
	l = slices.Clone(l)
	for i := range l {
		l[i].Stays = slices.Clone(l[i].Stays)
	}
	return l
}

// same reports whether messages are equal; nil and empty slices are.
func same(a, b []api.Message) bool {
	return slices.EqualFunc(a, b, func(x, y api.Message) bool {
		return x.Kind == y.Kind && x.Id == y.Id && x.Stamp == y.Stamp && x.People == y.People && slices.Equal(x.Stays, y.Stays)
	})
}

// spell is how a random case is made: the limits of its huts, nights, beds,
// people, and of the nights of a stay, and how many requests there are.
type spell struct{ huts, nights, beds, people, length, requests int }

// tight are cases in which many requests wait, each for several reasons.
func tight() []spell {
	return []spell{
		{2, 5, 3, 2, 2, 9}, {1, 4, 4, 4, 3, 9}, {3, 6, 2, 2, 3, 10}, {2, 4, 6, 3, 2, 11}, {1, 3, 3, 3, 2, 10}, {2, 8, 1, 1, 4, 10},
	}
}

func (s spell) chain(r *rand.Rand) api.Chain {
	c := api.Chain{Nights: 1 + r.Intn(s.nights)}
	for range 1 + r.Intn(s.huts) {
		c.Huts = append(c.Huts, api.Hut{Beds: r.Intn(s.beds + 1), Emergency: r.Intn(4)})
	}
	return c
}

func (s spell) request(r *rand.Rand, c api.Chain, id int) api.Message {
	m := request(id, r.Intn(6), 1+r.Intn(s.people))
	for night := r.Intn(c.Nights); night < c.Nights && len(m.Stays) < api.MaxStays; night += r.Intn(3) {
		high := min(night+r.Intn(s.length), c.Nights-1)
		m.Stays = append(m.Stays, stay(r.Intn(len(c.Huts)), night, high))
		night = high + 1
		if r.Intn(3) == 0 {
			break
		}
	}
	return m
}

// messages returns requests, some of them several times, and a few cancellations.
func (s spell) messages(r *rand.Rand, c api.Chain) []api.Message {
	var l []api.Message
	ids := r.Perm(api.MaxBooking + 1)
	for i := range s.requests {
		m := s.request(r, c, ids[i])
		l = append(l, m)
		if r.Intn(6) == 0 {
			l = append(l, m)
		}
		if r.Intn(9) == 0 {
			l = append(l, cancel(m.Id))
		}
	}
	r.Shuffle(len(l), func(i, j int) { l[i], l[j] = l[j], l[i] })
	return l
}

// eachCase calls visit for random chains and messages.
func eachCase(t *testing.T, seed int64, count int, visit func(r *rand.Rand, c api.Chain, l []api.Message)) {
	t.Helper()
	r := rand.New(rand.NewSource(seed))
	for i := range count {
		s := tight()[i%len(tight())]
		c := s.chain(r)
		l := s.messages(r, c)
		visit(r, c, l)
		if t.Failed() {
			t.Fatalf("case %d: chain %v, messages %v", i, c, l)
		}
	}
}

// turns returns the requests of messages that are not cancelled, by their turns.
func turns(l []api.Message) []api.Message {
	var queue []api.Message
	for _, m := range l {
		again := slices.ContainsFunc(queue, func(x api.Message) bool { return x.Id == m.Id })
		gone := slices.ContainsFunc(l, func(x api.Message) bool { return x.Kind == api.Cancel && x.Id == m.Id })
		if !again && !gone {
			queue = append(queue, m)
		}
	}
	slices.SortFunc(queue, func(a, b api.Message) int {
		return cmp.Or(cmp.Compare(a.Stamp, b.Stamp), cmp.Compare(a.Id, b.Id))
	})
	return queue
}

// stays reports whether a request has a stay in a hut in a night.
func stays(m api.Message, hut, night int) bool {
	return slices.ContainsFunc(m.Stays, func(s api.Stay) bool {
		return s.Hut == hut && s.Nights.Low <= night && night <= s.Nights.High
	})
}

// unused counts the beds of a hut that some bookings do not need in a night.
func unused(c api.Chain, booked []api.Message, hut, night int) int {
	left := c.Huts[hut].Beds
	for _, m := range booked {
		if stays(m, hut, night) {
			left -= m.People
		}
	}
	return left
}

// lack returns the first night in which a request lacks beds that some bookings
// leave, the hut, and how many; or -1, -1, 0.
func lack(c api.Chain, booked []api.Message, m api.Message) (hut, night, short int) {
	for night := range c.Nights {
		for hut := range c.Huts {
			if left := unused(c, booked, hut, night); stays(m, hut, night) && left < m.People {
				return hut, night, m.People - left
			}
		}
	}
	return -1, -1, 0
}

// decide goes through the queue by the definition of the chapter.
func decide(c api.Chain, l []api.Message) (accepted, waiting []api.Message) {
	for _, m := range turns(l) {
		if _, _, short := lack(c, accepted, m); short > 0 {
			waiting = append(waiting, m)
		} else {
			accepted = append(accepted, m)
		}
	}
	return accepted, waiting
}

func ids(l []api.Message) []int {
	var ids []int
	for _, m := range l {
		ids = append(ids, m.Id)
	}
	return ids
}

func sorted(l []int) []int {
	l = slices.Clone(l)
	slices.Sort(l)
	return l
}

// accepted returns what Accepted returns.
func accepted(t *testing.T, c api.Chain, l []api.Message) []int {
	t.Helper()
	l2, e := beds.Accepted(c, l)
	if e != api.OK {
		t.Fatalf("Accepted of %v, %v: %d", c, l, e)
	}
	return l2
}

// without returns messages with cancellations of some bookings before them.
func without(l []api.Message, ids ...int) []api.Message {
	var all []api.Message
	for _, id := range ids {
		all = append(all, cancel(id))
	}
	return append(all, l...)
}

// eachSubset calls visit for the lists of count of some numbers, in their order,
// until it returns true.
func eachSubset(numbers []int, count int, visit func(chosen []int) bool) bool {
	var extend func(chosen, rest []int) bool
	extend = func(chosen, rest []int) bool {
		if len(chosen) == count {
			return visit(chosen)
		}
		for i, x := range rest {
			if extend(append(slices.Clone(chosen), x), rest[i+1:]) {
				return true
			}
		}
		return false
	}
	return extend(nil, numbers)
}

func isZero(results []any) bool {
	return !slices.ContainsFunc(results, func(x any) bool {
		v := reflect.ValueOf(x)
		return !v.IsZero() && (v.Kind() != reflect.Slice || v.Len() > 0)
	})
}
