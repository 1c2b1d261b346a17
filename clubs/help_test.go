package clubs_test

import (
	"cmp"
	"math/rand"
	"slices"
	"testing"

	"bivouac/api"
	"bivouac/beds"
	"bivouac/clubs"
)

func stay(hut, low, high int) api.Stay {
	return api.Stay{Hut: hut, Nights: api.Span{Low: low, High: high}}
}

func request(id, stamp, people int, stays ...api.Stay) api.Message {
	return api.Message{Kind: api.Request, Id: id, Stamp: stamp, People: people, Stays: stays}
}

func cancel(id int) api.Message { return api.Message{Kind: api.Cancel, Id: id} }

func payer(id, club, children int) api.Payer {
	return api.Payer{Id: id, Club: club, Children: children}
}

func right(club, in int) api.Right { return api.Right{Club: club, In: in} }

func work(club, hut, nights int) api.Work { return api.Work{Club: club, Hut: hut, Nights: nights} }

// exampleU is the union U of the chapter.
func exampleU() api.Union {
	return api.Union{
		Chain: api.Chain{Huts: []api.Hut{{Beds: 3, Emergency: 2}, {Beds: 2}}, Nights: 4},
		Messages: []api.Message{
			request(5, 10, 2, stay(0, 0, 1), stay(1, 2, 2)),
			request(3, 20, 2, stay(0, 1, 2)),
			request(8, 20, 1, stay(0, 1, 1), stay(1, 2, 3)),
			request(9, 30, 1, stay(0, 1, 3)),
		},
		Clubs: 3, Fees: []int{3000, 2501}, Shares: [][]int{{60, 40, 0}, {0, 33, 67}},
		Guests: []api.Payer{payer(5, 1, 1), payer(9, 2, 0)},
		Rights: []api.Right{right(2, 0)},
		Works:  []api.Work{work(0, 1, 2)},
		Member: 40, Child: 50, Tax: 150, Credit: 1000,
	}
}

// bare is a union of one club that owns one hut, in which one booking, with the Id 1, of
// some people is accepted, for some nights.
func bare(people, nights int) api.Union {
	return api.Union{
		Chain:    api.Chain{Huts: []api.Hut{{Beds: api.MaxBeds}}, Nights: nights},
		Messages: []api.Message{request(1, 0, people, stay(0, 0, nights-1))},
		Clubs:    1, Fees: []int{1000}, Shares: [][]int{{100}},
	}
}

// changed returns a union with a change that replaces what it changes.
func changed(u api.Union, change func(u *api.Union)) api.Union {
	change(&u)
	return u
}

// withFee returns a union in which a hut has another fee.
func withFee(u api.Union, hut, fee int) api.Union {
	u.Fees = slices.Clone(u.Fees)
	u.Fees[hut] = fee
	return u
}

// withMessages returns a union with some messages before its own.
func withMessages(u api.Union, l ...api.Message) api.Union {
	u.Messages = append(l, u.Messages...)
	return u
}

// What follows are the definitions of the chapter, by hand.

// bookings returns the accepted bookings of a union by their Ids.
func bookings(u api.Union) map[int]api.Message {
	ids, _ := beds.Accepted(u.Chain, u.Messages)
	all := map[int]api.Message{}
	for _, m := range u.Messages {
		if m.Kind == api.Request && slices.Contains(ids, m.Id) {
			all[m.Id] = m
		}
	}
	return all
}

func guestOf(u api.Union, id int) api.Payer {
	for _, g := range u.Guests {
		if g.Id == id {
			return g
		}
	}
	return payer(id, -1, 0)
}

// entitled reports whether members of a club are treated as those of an owner of a hut.
func entitled(u api.Union, club, hut int) bool {
	for owner, share := range u.Shares[hut] {
		if share != 0 && (owner == club || slices.Contains(u.Rights, right(club, owner))) {
			return true
		}
	}
	return false
}

// upTo100 returns the lowest number that is at least a hundredth of another one.
func upTo100(hundredths int) int {
	x := hundredths / 100
	for x*100 < hundredths {
		x++
	}
	return x
}

// priceBy returns the price of a stay, person by person and night by night, and its tax.
func priceBy(u api.Union, m api.Message, s api.Stay) (price, tax int) {
	g := guestOf(u, m.Id)
	for person := range m.People {
		for range s.Nights.High - s.Nights.Low + 1 {
			one := u.Fees[s.Hut]
			if entitled(u, g.Club, s.Hut) {
				one = upTo100(one * (100 - u.Member))
			}
			if person < g.Children {
				one = upTo100(one * u.Child)
			} else {
				tax += u.Tax
			}
			price += one
		}
	}
	return price, tax
}

// costBy returns the price and the tax of all stays of a booking.
func costBy(u api.Union, m api.Message) (price, tax int) {
	for _, s := range m.Stays {
		more, moreTax := priceBy(u, m, s)
		price, tax = price+more, tax+moreTax
	}
	return price, tax
}

// splitBy gives each cent that is left to the first club that is the farthest below its
// percentage.
func splitBy(amount int, shares []int) []int {
	parts, left := make([]int, len(shares)), amount
	for club, share := range shares {
		parts[club] = amount * share / 100
		left -= parts[club]
	}
	for ; left > 0; left-- {
		poorest := 0
		for club, share := range shares {
			if amount*share-100*parts[club] > amount*shares[poorest]-100*parts[poorest] {
				poorest = club
			}
		}
		parts[poorest]++
	}
	return parts
}

// accountsBy returns the balances of all accounts.
func accountsBy(u api.Union) []int {
	balances := make([]int, u.Clubs+2)
	for _, m := range bookings(u) {
		for _, s := range m.Stays {
			price, tax := priceBy(u, m, s)
			for club, part := range splitBy(price, u.Shares[s.Hut]) {
				balances[club] += part
			}
			balances[u.Clubs] += tax
			balances[u.Clubs+1] -= price + tax
		}
	}
	for _, w := range u.Works {
		balances[w.Club] += w.Nights * u.Credit
		for club, part := range splitBy(w.Nights*u.Credit, u.Shares[w.Hut]) {
			balances[club] -= part
		}
	}
	return balances
}

// incomeBy returns the prices of all stays in a hut with some fee.
func incomeBy(u api.Union, hut, fee int) int {
	u = withFee(u, hut, fee)
	total := 0
	for _, m := range bookings(u) {
		for _, s := range m.Stays {
			if price, _ := priceBy(u, m, s); s.Hut == hut {
				total += price
			}
		}
	}
	return total
}

func total(numbers []int) int {
	sum := 0
	for _, x := range numbers {
		sum += x
	}
	return sum
}

// notZero counts the balances that are not 0.
func notZero(balances []int) int {
	count := 0
	for _, x := range balances {
		count += isTrue(x != 0)
	}
	return count
}

// fewestByGroups goes through all ways to put the accounts into groups, each of which is
// settled by one transfer less than it has accounts.
func fewestByGroups(balances []int) int {
	best := len(balances)
	var put func(account int, groups []int)
	put = func(account int, groups []int) {
		if account == len(balances) {
			if notZero(groups) == 0 {
				best = min(best, len(balances)-len(groups))
			}
			return
		}
		for i := range groups {
			groups[i] += balances[account]
			put(account+1, groups)
			groups[i] -= balances[account]
		}
		put(account+1, append(slices.Clone(groups), balances[account]))
	}
	put(0, nil)
	return best
}

// canSettle reports whether at most so many transfers between any accounts, of at most
// some amount each, settle balances.
func canSettle(balances []int, transfers, most int) bool {
	if notZero(balances) == 0 {
		return true
	}
	if notZero(balances) > 2*transfers {
		return false
	}
	for from := range balances {
		for to := range balances {
			for amount := 1; amount <= most && from != to; amount++ {
				after := slices.Clone(balances)
				after[from] += amount
				after[to] -= amount
				if canSettle(after, transfers-1, most) {
					return true
				}
			}
		}
	}
	return false
}

// settles reports whether transfers settle balances: those who are owed something get it
// from those who owe it.
func settles(transfers []api.Transfer, balances []int) bool {
	left := slices.Clone(balances)
	for _, x := range transfers {
		if x.Amount < 1 || min(x.From, x.To) < 0 || max(x.From, x.To) >= len(balances) || balances[x.From] >= 0 || balances[x.To] <= 0 {
			return false
		}
		left[x.From] += x.Amount
		left[x.To] -= x.Amount
	}
	return notZero(left) == 0
}

// What follows are random arguments, all of which are valid.

// size tells how great random unions are.
type size struct{ clubs, huts, beds, nights, people, requests, fee, works int }

func small() size {
	return size{clubs: 3, huts: 2, beds: 4, nights: 4, people: 3, requests: 5, fee: 20, works: 2}
}

func medium() size {
	return size{clubs: 4, huts: 3, beds: 12, nights: 8, people: 4, requests: 12, fee: 500, works: 6}
}

func large() size {
	return size{clubs: api.MaxClubs, huts: api.MaxHuts, beds: api.MaxBeds, nights: api.MaxNights, people: 10, requests: 35, fee: api.MaxFee, works: api.MaxWorks}
}

// chain returns a chain, and messages of which some wait, are there twice or cancelled.
func (z size) chain(r *rand.Rand) (api.Chain, []api.Message) {
	c := api.Chain{Nights: 1 + r.Intn(z.nights)}
	for range 1 + r.Intn(z.huts) {
		c.Huts = append(c.Huts, api.Hut{Beds: r.Intn(z.beds + 1)})
	}
	var l []api.Message
	for _, id := range r.Perm(api.MaxBooking + 1)[:r.Intn(z.requests+1)] {
		if len(l) > api.MaxMessages-2 {
			break
		}
		m := request(id, r.Intn(6), 1+r.Intn(z.people))
		for night := r.Intn(c.Nights); night < c.Nights && len(m.Stays) < api.MaxStays; night += r.Intn(3) {
			high := min(night+r.Intn(3), c.Nights-1)
			m.Stays = append(m.Stays, stay(r.Intn(len(c.Huts)), night, high))
			night = high + 1
		}
		l = append(l, m)
		if r.Intn(6) == 0 {
			l = append(l, []api.Message{m, cancel(id)}[r.Intn(2)])
		}
	}
	r.Shuffle(len(l), func(i, j int) { l[i], l[j] = l[j], l[i] })
	return c, l
}

// pickShares returns a row of shares, in which often some have nothing.
func pickShares(r *rand.Rand, count int) []int {
	row, left := make([]int, count), 100
	for _, club := range r.Perm(count)[1:] {
		row[club] = []int{0, 0, left / 3, r.Intn(left + 1)}[r.Intn(4)]
		left -= row[club]
	}
	row[slices.Index(row, 0)] += left
	return row
}

// union returns a union, in which some guests have no booking.
func (z size) union(r *rand.Rand) api.Union {
	u := api.Union{Clubs: 1 + r.Intn(z.clubs), Member: r.Intn(101), Child: r.Intn(101), Tax: r.Intn(z.fee + 1), Credit: r.Intn(z.fee + 1)}
	u.Chain, u.Messages = z.chain(r)
	for range u.Chain.Huts {
		u.Fees, u.Shares = append(u.Fees, r.Intn(z.fee+1)), append(u.Shares, pickShares(r, u.Clubs))
	}
	known := map[int]bool{}
	for _, m := range u.Messages {
		if r.Intn(4) > 0 && !known[m.Id] && len(u.Guests) < api.MaxPayers {
			known[m.Id] = true
			u.Guests = append(u.Guests, payer(m.Id, r.Intn(u.Clubs+1)-1, r.Intn(2)*r.Intn(z.people+1)))
		}
	}
	for range r.Intn(6) {
		u.Rights = append(u.Rights, right(r.Intn(u.Clubs), r.Intn(u.Clubs)))
	}
	for range r.Intn(z.works + 1) {
		u.Works = append(u.Works, work(r.Intn(u.Clubs), r.Intn(len(u.Chain.Huts)), r.Intn(api.MaxNights+1)))
	}
	return u
}

// eachUnion calls check for random unions.
func eachUnion(t *testing.T, z size, seed int64, cases int, check func(r *rand.Rand, u api.Union)) {
	t.Helper()
	r := rand.New(rand.NewSource(seed))
	for i := range cases {
		u := z.union(r)
		check(r, u)
		if t.Failed() {
			t.Fatalf("case %d: %+v", i, u)
		}
	}
}

// pickBalances returns balances, up to some amount but for one of them, together 0.
func pickBalances(r *rand.Rand, count, most int) []int {
	balances := make([]int, count)
	for i := range count - 1 {
		balances[i] = r.Intn(2*most+1) - most
	}
	if count > 0 {
		balances[count-1] = -total(balances)
	}
	r.Shuffle(count, func(i, j int) { balances[i], balances[j] = balances[j], balances[i] })
	return balances
}

// pricesOf returns price and tax of each accepted booking, by their Ids.
func pricesOf(t *testing.T, u api.Union) map[int][2]int {
	t.Helper()
	all := map[int][2]int{}
	for id := range bookings(u) {
		price, tax, e := clubs.Price(u, id)
		if e != api.OK {
			t.Errorf("Price of %d: %d", id, e)
		}
		all[id] = [2]int{price, tax}
	}
	return all
}

// accountsOf returns the result of Accounts.
func accountsOf(t *testing.T, u api.Union) []int {
	t.Helper()
	balances, e := clubs.Accounts(u)
	if e != api.OK {
		t.Fatalf("Accounts of %+v: %d", u, e)
	}
	return balances
}

// isBefore reports whether a request comes before another one in the queue.
func isBefore(a, b api.Message) bool {
	return cmp.Or(cmp.Compare(a.Stamp, b.Stamp), cmp.Compare(a.Id, b.Id)) < 0
}

func isTrue(b bool) int {
	if b {
		return 1
	}
	return 0
}
