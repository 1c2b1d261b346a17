package beds

import (
	"cmp"
	"slices"

	"bivouac/api"
)

// claim is a stay of an accepted booking, with its number.
type claim struct {
	api.Stay
	id, number, people int
}

// allocate gives out the beds of each hut in the order in which the stays
// begin. So the stays that have beds in the first night of the next one are all
// that it must not share a bed with, and they leave enough beds for it.
func (o office) allocate() []api.Held {
	var free [api.MaxHuts][api.MaxBeds]int // the first night in which a bed is not given out yet
	var all []api.Held
	for _, x := range o.claims() {
		held := api.Held{Id: x.id, Stay: x.number}
		for bed := range o.Huts[x.Hut].Beds {
			if len(held.Beds) < x.people && free[x.Hut][bed] <= x.Nights.Low {
				held.Beds = append(held.Beds, bed)
				free[x.Hut][bed] = x.Nights.High + 1
			}
		}
		all = append(all, held)
	}
	slices.SortFunc(all, func(a, b api.Held) int {
		return cmp.Or(cmp.Compare(a.Id, b.Id), cmp.Compare(a.Stay, b.Stay))
	})
	return all
}

// claims returns the stays of all accepted bookings by their first nights.
func (o office) claims() []claim {
	var all []claim
	for _, m := range o.accepted {
		for i, s := range m.Stays {
			all = append(all, claim{s, m.Id, i, m.People})
		}
	}
	slices.SortFunc(all, func(a, b claim) int {
		return cmp.Or(cmp.Compare(a.Nights.Low, b.Nights.Low), cmp.Compare(a.id, b.id))
	})
	return all
}
