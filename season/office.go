package season

import (
	"slices"

	"bivouac/api"
	"bivouac/beds"
)

// book enters a request with one stay, and tells what became of it.
func (w *warden) book(n []int) string {
	stay := api.Stay{Hut: n[3], Nights: api.Span{Low: n[4], High: n[5]}}
	m := api.Message{Kind: api.Request, Id: n[0], Stamp: n[1], People: n[2], Stays: []api.Stay{stay}}
	if !w.enter(m) {
		return refused
	}
	return w.standing(m.Id)
}

// cancel enters a cancellation.
func (w *warden) cancel(n []int) string {
	if !w.enter(api.Message{Kind: api.Cancel, Id: n[0]}) {
		return refused
	}
	return done
}

// enter puts a message at the end of the messages, unless it is there already. It reports
// whether it is one of them then.
func (w *warden) enter(m api.Message) bool {
	isKnown := func(other api.Message) bool { return isEqual(m, other) }
	if slices.ContainsFunc(w.Messages, isKnown) {
		return true
	}
	after := w.Register
	after.Messages = with(w.Messages, m)
	// This tells if the message is not valid or clashes with another one, and if there
	// are too many.
	if beds.Check(w.Chain, after.Messages) != api.OK {
		return false
	}
	w.change(after)
	return true
}

func isEqual(a, b api.Message) bool {
	return a.Kind == b.Kind && a.Id == b.Id && a.Stamp == b.Stamp && a.People == b.People && slices.Equal(a.Stays, b.Stays)
}

// standing tells what has become of a request. Calls of beds have no error with the
// messages of the register.
func (w *warden) standing(id int) string {
	accepted, _ := beds.Accepted(w.Chain, w.Messages)
	waiting, _ := beds.Waiting(w.Chain, w.Messages)
	switch {
	case slices.Contains(accepted, id):
		return "accepted"
	case slices.Contains(waiting, id):
		return "waits"
	}
	return "cancelled"
}

// listing returns what answers with the Ids that a function tells of the messages.
func listing(ids func(api.Chain, []api.Message) ([]int, api.Errno)) func(w *warden, n []int) string {
	return func(w *warden, _ []int) string {
		list, _ := ids(w.Chain, w.Messages)
		if len(list) == 0 {
			return nothing
		}
		return say(list)
	}
}

// left tells how many beds of a hut are left in a night.
func (w *warden) left(n []int) string {
	left, e := beds.Left(w.Chain, w.Messages, n[0], n[1])
	if e != api.OK {
		return refused
	}
	return say(left)
}

// letIn tells where people sleep who arrive today without a booking.
func (w *warden) letIn(n []int) string {
	bed, emergency, floor, e := beds.LetIn(w.Chain, w.Messages, n[0], w.Day, n[1])
	if e != api.OK {
		return refused
	}
	return say(bed, emergency, floor)
}
