package beds

import (
	"iter"
	"slices"

	"bivouac/api"
)

// checked is a chain that has been checked.
type checked struct{ api.Chain }

// hutNight is a hut in a night.
type hutNight struct{ hut, night int }

// office is a chain, and what has been decided on the requests for its beds.
type office struct {
	checked
	used     map[hutNight]int
	accepted []api.Message // in the order of the queue
	waiting  []refusal     // in the order of the queue
}

// refusal is a request that waits, with the first night in which it lacks beds
// when its turn comes, and how many it lacks.
type refusal struct {
	api.Message
	at    hutNight
	short int
}

// open checks a chain and messages, and decides on the requests.
func open(c api.Chain, l []api.Message) (office, api.Errno) {
	if e := Check(c, l); e != api.OK {
		return office{}, e
	}
	o := office{checked: checked{c}, used: map[hutNight]int{}}
	for _, m := range queue(join(l)) {
		o.decide(m)
	}
	return o, api.OK
}

// decide accepts a request or lets it wait. Those before it in the queue must
// have been decided on.
func (o *office) decide(m api.Message) {
	for at := range nights(m) {
		if short := m.People - o.left(at); short > 0 {
			o.waiting = append(o.waiting, refusal{m, at, short})
			return
		}
	}
	for at := range nights(m) {
		o.used[at] += m.People
	}
	o.accepted = append(o.accepted, m)
}

func (o office) left(at hutNight) int { return o.Huts[at.hut].Beds - o.used[at] }

// has reports whether a hut and a night are those of the chain.
func (c checked) has(at hutNight) bool { return isHut(c.Chain, at.hut) && isNight(c.Chain, at.night) }

// refused returns the request with an Id that waits.
func (o office) refused(id int) (refusal, bool) {
	for _, r := range o.waiting {
		if r.Id == id {
			return r, true
		}
	}
	return refusal{}, false
}

// nights yields the nights of a request, with the hut of each.
func nights(m api.Message) iter.Seq[hutNight] {
	return func(yield func(hutNight) bool) {
		for _, s := range m.Stays {
			for night := s.Nights.Low; night <= s.Nights.High; night++ {
				if !yield(hutNight{s.Hut, night}) {
					return
				}
			}
		}
	}
}

// queue returns the requests of some messages that are not cancelled, in the
// order in which they are decided on.
func queue(l []api.Message) []api.Message {
	cancelled := map[int]bool{}
	for _, m := range l {
		if m.Kind == api.Cancel {
			cancelled[m.Id] = true
		}
	}
	var requests []api.Message
	for _, m := range l {
		if !cancelled[m.Id] {
			requests = append(requests, m)
		}
	}
	slices.SortFunc(requests, byTurn)
	return requests
}
