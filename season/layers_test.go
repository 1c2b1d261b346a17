package season_test

import (
	"fmt"
	"math/rand"
	"slices"
	"testing"

	"bivouac/api"
	"bivouac/clubs"
	"bivouac/ropes"
	"bivouac/season"
	"bivouac/tours"
)

// lineOf returns the line that enters a message, which has at most one stay.
func lineOf(m api.Message) string {
	if m.Kind == api.Cancel {
		return fmt.Sprint("cancel ", m.Id)
	}
	s := m.Stays[0]
	return fmt.Sprintf("book %d %d %d %d %d %d", m.Id, m.Stamp, m.People, s.Hut, s.Nights.Low, s.Nights.High)
}

// pickTour returns a tour in a season over all huts, between each two of which a day
// leads, with the messages of a register.
func pickTour(r *rand.Rand, x api.Season, end api.Register) api.Tour {
	huts := len(x.Chain.Huts)
	t := api.Tour{
		Net: api.Net{Places: huts + 2}, Party: api.Party{Grade: 1, Pace: span(100, 100)}, Chain: x.Chain, Messages: end.Messages,
		People: 1 + r.Intn(3), Start: 300, Dusk: 420, Late: 500, To: huts + 1, Id: -1,
	}
	for place := range huts + 1 {
		t.Net.Paths = append(t.Net.Paths, api.Path{From: place, To: place + 1, Grade: 1, Time: span(50+r.Intn(50), 100), Opens: always()})
		if place < huts {
			t.Places = append(t.Places, place+1)
		}
	}
	return t
}

// TestP0_4: the request for a tour, if it has one stay, is accepted when it is entered in
// the books; undo takes it away again.
func TestP0_4(t *testing.T) {
	booked, waiting := 0, 0
	eachScript(t, 4, 5000, 40, func(r *rand.Rand, x api.Season, script []string) {
		answers, before := run(t, x, append(script, "waiting", "accepted"))
		script = script[:len(script):len(script)]
		id := 6 + r.Intn(90)
		m, e := tours.Book(pickTour(r, x, before), id)
		if e != api.OK || len(m.Stays) != 1 {
			return
		}
		last := len(script)
		after, end := run(t, x, append(script, lineOf(m), "accepted", "undo", "accepted"))
		if after[last] != "accepted" || !slices.Contains(numbersOf(after[last+1]), id) || after[last+3] != answers[last+1] {
			t.Errorf("%q: %q, and before %q", lineOf(m), after[last:], answers[last:])
		}
		checkRegister(t, "undone", end, before)
		booked++
		waiting += isTrue(answers[last] != "none")
	})
	if booked < 500 || waiting < 50 {
		t.Errorf("just %d tours, %d while others wait", booked, waiting)
	}
}

// pickUnion returns a union of clubs that share the huts of a season, whose guests are
// those of some bookings.
func pickUnion(r *rand.Rand, x api.Season) api.Union {
	u := api.Union{Chain: x.Chain, Clubs: 3, Member: r.Intn(101), Child: r.Intn(101), Tax: r.Intn(200), Credit: r.Intn(1000)}
	for hut := range x.Chain.Huts {
		share := r.Intn(101)
		rest := r.Intn(101 - share)
		u.Fees, u.Shares = append(u.Fees, r.Intn(5000)), append(u.Shares, []int{share, rest, 100 - share - rest})
		u.Works = append(u.Works, api.Work{Club: r.Intn(3), Hut: hut, Nights: r.Intn(5)})
	}
	for id := range 6 {
		u.Guests = append(u.Guests, api.Payer{Id: id, Club: r.Intn(4) - 1, Children: r.Intn(3)})
	}
	return u
}

// accountsOf returns the accounts of a union for the messages of a register. They add up
// to 0.
func accountsOf(t *testing.T, u api.Union, end api.Register) []int {
	t.Helper()
	u.Messages = end.Messages
	balances, e := clubs.Accounts(u)
	sum := 0
	for _, x := range balances {
		sum += x
	}
	if sum != 0 || e != api.OK {
		t.Errorf("Accounts for %+v = %v, %d", end.Messages, balances, e)
	}
	return balances
}

// TestP0_5: after a change of the books and undo the accounts of the clubs are what they
// were before; they add up to 0 for the messages of every register.
func TestP0_5(t *testing.T) {
	others := 0
	eachScript(t, 5, 300, 40, func(r *rand.Rand, x api.Season, script []string) {
		u := pickUnion(r, x)
		all := ends(t, x, script)
		for i, line := range script {
			before, after := accountsOf(t, u, all[i]), accountsOf(t, u, all[i+1])
			if line == "undo" || line == "redo" || isSame(all[i], all[i+1]) {
				continue
			}
			_, end := run(t, x, slices.Concat(script[:i+1], []string{"undo"}))
			if again := accountsOf(t, u, end); !slices.Equal(again, before) {
				t.Errorf("the accounts are %v, and before %q %v", again, line, before)
			}
			others += isTrue(!slices.Equal(before, after))
		}
	})
	if others < 200 {
		t.Errorf("just %d changes of the accounts", others)
	}
}

// TestP0_6: each rope of the books that a team uses surely is fit on the day, and is
// answered so.
func TestP0_6(t *testing.T) {
	used, unfit := 0, 0
	eachScript(t, 6, 2000, api.MaxScript-2*api.MaxRopes, func(r *rand.Rand, x api.Season, script []string) {
		_, end := run(t, x, script)
		o := api.Outing{Day: end.Day, Grade: 1 + r.Intn(3), Spacing: 1 + r.Intn(2), Model: x.Model, Ropes: end.Ropes}
		for range r.Intn(4) {
			o.Guides = append(o.Guides, api.Guide{Grade: 2 + r.Intn(3), Until: r.Intn(10), Points: 2 + r.Intn(6)})
			o.Clients = append(o.Clients, 1+r.Intn(4))
		}
		_, tied, e := ropes.Teams(o)
		if e != api.OK {
			return
		}
		for _, number := range tied {
			if number < 0 {
				continue
			}
			answers, _ := run(t, x, slices.Concat(script, []string{fmt.Sprint("fit ", number), fmt.Sprint("use ", number)}))
			if answers[len(script)] != "sure" || answers[len(script)+1] != "ok" {
				t.Errorf("the rope %d of %+v: %q", number, end, answers[len(script):])
			}
			used++
		}
		for i := range end.Ropes {
			answers, _ := run(t, x, slices.Concat(script, []string{fmt.Sprint("fit ", i)}))
			unfit += isTrue(len(o.Clients) > 0 && answers[len(script)] != "sure")
		}
	})
	if min(used, unfit) < 50 {
		t.Errorf("just %d ropes are used, and there are %d that are not fit", used, unfit)
	}
}

// TestP0_7: the script of the chapter, read from its file, leads to the same answers and
// the same register. (TestP12_11 replays random scripts.)
func TestP0_7(t *testing.T) {
	script := linesOf(exampleScript())
	text, _ := season.Write(script)
	again, _, e := season.Read(text)
	if e != api.OK {
		t.Fatalf("Read: %d", e)
	}
	want, end := run(t, exampleA(), script)
	answers, end2 := run(t, exampleA(), again)
	if !slices.Equal(answers, want) {
		t.Errorf("replayed: %q, want %q", answers, want)
	}
	checkRegister(t, "replayed", end2, end)
}
