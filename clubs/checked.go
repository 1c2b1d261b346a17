package clubs

import (
	"slices"

	"bivouac/api"
	"bivouac/beds"
)

// checked is a union that has been checked.
type checked struct {
	api.Union
	booked []api.Message // the accepted bookings, by their Ids
}

// noClub stands for the club of guests who are members of none.
const noClub = -1

// newChecked makes a call of beds that has no error, as the union has none.
func newChecked(u api.Union) checked {
	c := checked{Union: u}
	ids, _ := beds.Accepted(u.Chain, u.Messages)
	for _, id := range ids {
		// no message with the Id of an accepted booking cancels it, so the first one asks for it
		i := slices.IndexFunc(u.Messages, func(m api.Message) bool { return m.Id == id })
		c.booked = append(c.booked, u.Messages[i])
	}
	return c
}

// charging returns the union in which a hut has some fee.
func (c checked) charging(hut, fee int) checked {
	c.Fees = slices.Clone(c.Fees)
	c.Fees[hut] = fee
	return c
}

// payer returns who pays for a booking.
func (c checked) payer(id int) api.Payer {
	i := slices.IndexFunc(c.Guests, func(p api.Payer) bool { return p.Id == id })
	if i < 0 {
		return api.Payer{Id: id, Club: noClub}
	}
	return c.Guests[i]
}

func (c checked) owns(club, hut int) bool { return c.Shares[hut][club] > 0 }

// isEntitled reports whether members of a club are treated as those of an owner of a hut.
func (c checked) isEntitled(club, hut int) bool {
	isTreated := func(r api.Right) bool { return r.Club == club && c.owns(r.In, hut) }
	return club != noClub && (c.owns(club, hut) || slices.ContainsFunc(c.Rights, isTreated))
}

// prices returns the prices of a hut for a night, for an adult and for a child.
func (c checked) prices(club, hut int) (adult, child int) {
	adult = c.Fees[hut]
	if c.isEntitled(club, hut) {
		adult = percentUp(adult, 100-c.Member)
	}
	return adult, percentUp(adult, c.Child)
}

// stayCost returns the price of a stay of a booking, and its tax.
func (c checked) stayCost(m api.Message, s api.Stay) (price, tax int) {
	p := c.payer(m.Id)
	children := min(p.Children, m.People)
	adults := m.People - children
	nights := s.Nights.High - s.Nights.Low + 1
	adult, child := c.prices(p.Club, s.Hut)
	return nights * (adults*adult + children*child), nights * adults * c.Tax
}

// cost returns the price of a booking, of all its stays, and its tax.
func (c checked) cost(m api.Message) (price, tax int) {
	for _, s := range m.Stays {
		more, moreTax := c.stayCost(m, s)
		price += more
		tax += moreTax
	}
	return price, tax
}

// income returns the prices of all stays in a hut together.
func (c checked) income(hut int) int {
	total := 0
	for _, m := range c.booked {
		for _, s := range m.Stays {
			if s.Hut == hut {
				price, _ := c.stayCost(m, s)
				total += price
			}
		}
	}
	return total
}

// accounts returns the balances of the clubs, of the commune and of the guests. What one
// account gets is taken from others at once, so they add up to 0.
func (c checked) accounts() []int {
	balances := make([]int, c.Clubs+2)
	commune, guests := &balances[c.Clubs], &balances[c.Clubs+1]
	share := func(hut, amount, sign int) {
		for club, part := range split(amount, c.Shares[hut]) {
			balances[club] += sign * part
		}
	}
	for _, m := range c.booked {
		for _, s := range m.Stays {
			price, tax := c.stayCost(m, s)
			share(s.Hut, price, 1)
			*commune += tax
			*guests -= price + tax
		}
	}
	for _, w := range c.Works {
		credit := w.Nights * c.Credit
		balances[w.Club] += credit
		share(w.Hut, credit, -1)
	}
	return balances
}

// split splits an amount by shares that are a whole together. The cents that are left
// after rounding down are fewer than the parts that were rounded, so each of them goes to
// one of these.
func split(amount int, shares []int) []int {
	clubs, parts := make([]int, len(shares)), make([]int, len(shares))
	for club, share := range shares {
		clubs[club], parts[club] = club, amount*share/100
	}
	cut := func(club int) int { return amount * shares[club] % 100 }
	slices.SortStableFunc(clubs, func(a, b int) int { return cut(b) - cut(a) })
	for _, club := range clubs[:amount-sum(parts)] {
		parts[club]++
	}
	return parts
}

// percentUp returns so many percent of an amount, rounded up.
func percentUp(amount, percent int) int { return (amount*percent + 99) / 100 }
