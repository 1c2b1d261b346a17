package beds

import (
	"cmp"
	"slices"

	"bivouac/api"
)

// join returns all messages of some slices, each once, in new memory; ordered
// by Id, requests before cancellations of the same Id.
func join(lists ...[]api.Message) []api.Message {
	all := slices.Concat(lists...)
	for i, m := range all {
		// No stays become nil, as an empty slice would tell which list came first.
		all[i].Stays = append([]api.Stay(nil), m.Stays...)
	}
	slices.SortFunc(all, compare)
	same := func(a, b api.Message) bool { return compare(a, b) == 0 }
	return slices.CompactFunc(all, same)
}

// clash reports whether two requests of joined messages have the same Id. They
// differ, as no message is there twice.
func clash(joined []api.Message) bool {
	for i := 1; i < len(joined); i++ {
		if joined[i].Id == joined[i-1].Id && joined[i].Kind == joined[i-1].Kind {
			return true
		}
	}
	return false
}

// compare orders messages by Id and Kind, then by all else, so that only equal
// messages are equal in this order.
func compare(a, b api.Message) int {
	return cmp.Or(
		cmp.Compare(a.Id, b.Id),
		cmp.Compare(a.Kind, b.Kind),
		cmp.Compare(a.Stamp, b.Stamp),
		cmp.Compare(a.People, b.People),
		slices.CompareFunc(a.Stays, b.Stays, compareStays),
	)
}

func compareStays(a, b api.Stay) int {
	return cmp.Or(
		cmp.Compare(a.Hut, b.Hut),
		cmp.Compare(a.Nights.Low, b.Nights.Low),
		cmp.Compare(a.Nights.High, b.Nights.High),
	)
}

// byTurn orders requests by their places in the queue.
func byTurn(a, b api.Message) int {
	return cmp.Or(cmp.Compare(a.Stamp, b.Stamp), cmp.Compare(a.Id, b.Id))
}
