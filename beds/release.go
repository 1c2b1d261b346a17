package beds

import (
	"slices"

	"bivouac/api"
)

// table holds a number of beds for each hut in each night. Unlike maps, tables
// can be compared.
type table [api.MaxHuts][api.MaxNights]int16

// turn is a request that is decided on before the one to be accepted.
type turn struct {
	api.Message
	booked bool       // it was accepted, so that it can be cancelled
	shared []hutNight // the nights in which both need beds of the same hut
}

// release is a search for bookings to cancel so that a request is accepted. The
// queue before it is decided on anew; each booking may be cancelled at its turn.
type release struct {
	checked
	request api.Message
	turns   []*turn
	needs   []table // how many beds are needed from each turn on, with those of the request
}

// impossible is more bookings than there can be.
const impossible = api.MaxMessages + 1

// release returns the fewest accepted bookings without which a request that
// waits is accepted; of several lists that with the lower Id at the first
// difference.
//
// It looks for lists that are not longer than some number, and lets this number
// grow, because many choices are soon known to need more than the fewest.
func (o office) release(request api.Message) ([]int, bool) {
	r := newRelease(o, request)
	var ids []int
	for _, x := range r.turns {
		ids = append(ids, x.Id)
	}
	start := r.enough(r.empty(), 0)
	for most := r.least(start, 0); most < impossible; {
		next := impossible
		worth := func(left table, i, count int) bool {
			least := count + r.least(left, i)
			if least > most {
				next = min(next, least)
			}
			return least <= most
		}
		if cancelled, ok := choose(ids, start, r.follow, worth); ok {
			return cancelled, true
		}
		most = next
	}
	return nil, false
}

func newRelease(o office, request api.Message) release {
	r := release{checked: o.checked, request: request}
	for _, m := range o.accepted {
		r.turns = append(r.turns, &turn{Message: m, booked: true})
	}
	for _, m := range o.waiting {
		r.turns = append(r.turns, &turn{Message: m.Message})
	}
	behind := func(x *turn) bool { return byTurn(x.Message, request) >= 0 }
	r.turns = slices.DeleteFunc(r.turns, behind)
	slices.SortFunc(r.turns, func(a, b *turn) int { return byTurn(a.Message, b.Message) })
	r.share()
	r.sum()
	return r
}

// share finds out which nights the turns share with the request.
func (r *release) share() {
	wanted := map[hutNight]bool{}
	for at := range nights(r.request) {
		wanted[at] = true
	}
	for _, x := range r.turns {
		for at := range nights(x.Message) {
			if wanted[at] {
				x.shared = append(x.shared, at)
			}
		}
	}
}

// sum finds out how many beds are needed from each turn on.
func (r *release) sum() {
	var need table
	need.add(r.request, 1)
	r.needs = []table{need}
	for _, x := range slices.Backward(r.turns) {
		need.add(x.Message, 1)
		r.needs = append(r.needs, need)
	}
	slices.Reverse(r.needs)
}

// empty returns the beds that are left before the first turn.
func (r release) empty() table {
	var left table
	for hut, h := range r.Huts {
		for night := range r.Nights {
			left[hut][night] = int16(h.Beds)
		}
	}
	return left
}

// enough drops beds that are left at a turn but that nobody can need any more,
// so that more choices lead to equal tables.
func (r release) enough(left table, i int) table {
	for hut := range left {
		for night, need := range r.needs[i][hut] {
			left[hut][night] = min(left[hut][night], need)
		}
	}
	return left
}

// follow decides on the turn i: it returns what is left if it is cancelled, or
// is not. Only a booking that would be accepted at its turn is worth cancelling.
func (r release) follow(left table, i int, cancelled bool) (table, bool) {
	x := r.turns[i]
	fits := left.fits(x.Message)
	if cancelled && !(fits && x.booked) {
		return table{}, false
	}
	if fits && !cancelled {
		left.add(x.Message, -1)
	}
	return r.enough(left, i+1), true
}

// least returns a number of bookings that must be cancelled at least from the
// turn i on; impossible if nothing helps the request any more.
func (r release) least(left table, i int) int {
	var missing, booked [api.MaxNights]int
	for at := range nights(r.request) {
		missing[at.night] = r.request.People - int(left[at.hut][at.night])
	}
	firm := r.firm(left, i)
	for _, x := range firm {
		for _, at := range x.shared {
			missing[at.night] += x.People
			if x.booked {
				booked[at.night] += x.People
			}
		}
	}
	for night := range missing {
		if missing[night] > booked[night] {
			return impossible
		}
	}
	return fewest(missing, firm)
}

// firm returns the requests from the turn i on that share nights with the one
// to be accepted, and that need beds unless they are cancelled, whatever else
// is cancelled. In each of their nights there are beds for all requests up to
// them; or there must be, as the one to be accepted needs as many there at last.
func (r release) firm(left table, i int) []*turn {
	firm := make([]*turn, 0, len(r.turns)-i)
	var need table
	for _, x := range r.turns[i:] {
		need.add(x.Message, 1)
		sure := len(x.shared) > 0
		for at := range nights(x.Message) {
			if need[at.hut][at.night] > left[at.hut][at.night] {
				sure = sure && x.People <= r.request.People && slices.Contains(x.shared, at)
			}
		}
		if sure {
			firm = append(firm, x)
		}
	}
	return firm
}

// fewest returns a number of bookings that are cancelled at least if so many
// beds are to be free that are missing in the nights. It counts what each
// booking can contribute to all nights together.
func fewest(missing [api.MaxNights]int, turns []*turn) int {
	total := 0
	for _, n := range missing {
		total += max(n, 0)
	}
	gains := make([]int, 0, len(turns))
	for _, x := range turns {
		gain := 0
		for _, at := range x.shared {
			gain += max(min(x.People, missing[at.night]), 0)
		}
		if x.booked {
			gains = append(gains, gain)
		}
	}
	slices.Sort(gains)
	count := 0
	for ; total > 0; count++ {
		total -= gains[len(gains)-1-count]
	}
	return count
}

// add adds the beds that a request needs, so many times.
func (t *table) add(m api.Message, times int) {
	for at := range nights(m) {
		t[at.hut][at.night] += int16(times * m.People)
	}
}

// fits reports whether the beds that are left are enough for a request.
func (t *table) fits(m api.Message) bool {
	for at := range nights(m) {
		if int(t[at.hut][at.night]) < m.People {
			return false
		}
	}
	return true
}
