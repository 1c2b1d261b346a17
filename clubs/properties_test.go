package clubs_test

import (
	"math/rand"
	"reflect"
	"slices"
	"testing"

	"bivouac/api"
	"bivouac/beds"
	"bivouac/clubs"
	"bivouac/tours"
)

// TestP11_2_all: in any union Price is what the definition says, for all Ids.
func TestP11_2_all(t *testing.T) {
	counts := map[string]int{}
	for z, cases := range map[size]int{small(): 500, medium(): 300, large(): 50} {
		eachUnion(t, z, 2, cases, func(r *rand.Rand, u api.Union) {
			booked := bookings(u)
			for id := -1; id <= api.MaxBooking+1; id++ {
				m, ok := booked[id]
				if !ok {
					checkPrice(t, "not accepted", u, id, -1, 0)
					continue
				}
				price, tax := costBy(u, m)
				checkPrice(t, "accepted", u, id, price, tax)
				g := guestOf(u, id)
				counts["member"] += isTrue(g.Club >= 0)
				counts["entitled"] += isTrue(entitled(u, g.Club, m.Stays[0].Hut) && u.Shares[m.Stays[0].Hut][g.Club] == 0)
				counts["children"] += isTrue(0 < g.Children && g.Children < m.People)
				counts["too many children"] += isTrue(g.Children > m.People)
				counts["stays"] += isTrue(len(m.Stays) > 1)
			}
		})
	}
	if len(counts) < 5 || min(counts["member"], counts["entitled"], counts["children"], counts["too many children"], counts["stays"]) < 50 {
		t.Errorf("just so many cases of each kind: %v", counts)
	}
}

// TestP11_3_all: in any union Accounts is what the definition says. The balances add up to
// 0 (P11.8).
func TestP11_3_all(t *testing.T) {
	owing := 0
	for z, cases := range map[size]int{small(): 3000, medium(): 1000, large(): 200} {
		eachUnion(t, z, 3, cases, func(r *rand.Rand, u api.Union) {
			balances, e := clubs.Accounts(u)
			if want := accountsBy(u); !slices.Equal(balances, want) || e != api.OK {
				t.Errorf("Accounts = %v, %d, want %v", balances, e, want)
			}
			if total(balances) != 0 {
				t.Errorf("Accounts = %v, together %d", balances, total(balances))
			}
			owing += isTrue(len(balances) > 0 && slices.Min(balances[:u.Clubs]) < 0)
		})
	}
	if owing < 100 {
		t.Errorf("just %d cases in which a club owes something", owing)
	}
}

// TestP11_4_all: any Split is what the definition says. It adds up to the amount, and each
// part differs from the exact percentage by less than 1 (P11.8).
func TestP11_4_all(t *testing.T) {
	r := rand.New(rand.NewSource(4))
	left := map[int]int{}
	for range 20000 {
		amount := []int{r.Intn(200), r.Intn(100000), r.Intn(api.MaxAmount + 1)}[r.Intn(3)]
		shares := pickShares(r, 1+r.Intn(api.MaxClubs))
		parts, e := clubs.Split(amount, shares)
		if !slices.Equal(parts, splitBy(amount, shares)) || e != api.OK {
			t.Fatalf("Split of %d by %v = %v, %d, want %v", amount, shares, parts, e, splitBy(amount, shares))
		}
		down := 0
		for club, share := range shares {
			down += amount * share / 100
			if off := 100*parts[club] - amount*share; off <= -100 || off >= 100 {
				t.Errorf("Split of %d by %v = %v", amount, shares, parts)
			}
		}
		if total(parts) != amount {
			t.Errorf("Split of %d by %v = %v, together %d", amount, shares, parts, total(parts))
		}
		left[amount-down]++
	}
	if min(left[0], left[1], left[2], left[3]) < 100 {
		t.Errorf("just so many cases with so many cents left: %v", left)
	}
}

// TestP11_5_all: for any balances the transfers of Settle settle them (P11.10), and are as
// few as the groups that all partitions into groups have allow; so is Fewest. They are at
// most one less than there are balances that are not 0.
func TestP11_5_all(t *testing.T) {
	r := rand.New(rand.NewSource(5))
	groups, zeros := map[int]int{}, 0
	for _, most := range []int{1, 3, 4, 5, 10, 30, api.MaxAmount / 8} {
		for range 200 {
			balances := pickBalances(r, r.Intn(api.MaxAccounts+1), most)
			checkSettle(t, balances, fewestByGroups(balances))
			count, _ := clubs.Fewest(balances)
			if open := notZero(balances); open > 0 {
				if count >= open {
					t.Errorf("Fewest of %v = %d, but just %d are not 0", balances, count, open)
				}
				groups[open-count]++
				zeros += isTrue(open < len(balances))
			} else if count != 0 {
				t.Errorf("Fewest of %v = %d", balances, count)
			}
		}
	}
	if min(groups[1], groups[2], groups[3], zeros) < 50 {
		t.Errorf("just so many cases with so many groups: %v, and %d with an account of 0", groups, zeros)
	}
}

// TestP11_10: no settlement has fewer transfers, between whichever accounts, in whichever
// direction.
func TestP11_10(t *testing.T) {
	r := rand.New(rand.NewSource(10))
	counts := map[int]int{}
	for i := range 300 {
		balances := pickBalances(r, 2+r.Intn(3), 3)
		if i >= 290 {
			balances = pickBalances(r, 5, 2)
		}
		most := 0
		for _, x := range balances {
			most += max(0, x)
		}
		count, e := clubs.Fewest(balances)
		if count > 0 && canSettle(balances, count-1, most) || !canSettle(balances, count, most) || e != api.OK {
			t.Errorf("Fewest of %v = %d, %d", balances, count, e)
		}
		counts[count]++
	}
	if min(counts[1], counts[2], counts[3]) < 20 {
		t.Errorf("just so many cases with so many transfers: %v", counts)
	}
}

// TestP11_7_all: in any union the hut brings in at least what is needed with the fee of
// Raise, and with any greater one, and less with any lower one (P11.11).
func TestP11_7_all(t *testing.T) {
	none, some := 0, 0
	for z, cases := range map[size]int{small(): 300, medium(): 200, large(): 30} {
		eachUnion(t, z, 7, cases, func(r *rand.Rand, u api.Union) {
			hut := r.Intn(len(u.Chain.Huts))
			most := incomeBy(u, hut, api.MaxFee)
			need := min(api.MaxAmount, []int{most + r.Intn(2), incomeBy(u, hut, r.Intn(api.MaxFee+1)) + r.Intn(2), r.Intn(most + 1), r.Intn(50)}[r.Intn(4)])
			fee, e := clubs.Raise(u, hut, need)
			if (most < need) != (e == api.ErrNone) || e != api.ErrNone && e != api.OK || e != api.OK && fee != 0 {
				t.Fatalf("Raise of %d to %d = %d, %d, but it can be %d", hut, need, fee, e, most)
			}
			if e != api.OK {
				none++
				return
			}
			for _, other := range []int{0, fee / 2, fee - 1, fee - r.Intn(fee+1), fee, min(fee+1, api.MaxFee), fee + r.Intn(api.MaxFee-fee+1), api.MaxFee} {
				if income := incomeBy(u, hut, max(0, other)); (income >= need) != (max(0, other) >= fee) {
					t.Errorf("Raise of %d to %d = %d, but with %d it is %d", hut, need, fee, other, income)
				}
			}
			some += isTrue(fee > 0)
		})
	}
	if min(none, some) < 50 {
		t.Errorf("just %d cases without a fee, and %d with one", none, some)
	}
}

// TestP11_7_search: Raise is the first of all fees with which the hut brings in enough.
func TestP11_7_search(t *testing.T) {
	found := 0
	eachUnion(t, small(), 71, 300, func(r *rand.Rand, u api.Union) {
		hut := r.Intn(len(u.Chain.Huts))
		need := r.Intn(400)
		for fee := range 100 {
			if incomeBy(u, hut, fee) >= need {
				if got, e := clubs.Raise(u, hut, need); got != fee || e != api.OK {
					t.Errorf("Raise of %d to %d = %d, %d, want %d", hut, need, got, e, fee)
				}
				found += isTrue(fee > 0)
				return
			}
		}
	})
	if found < 50 {
		t.Errorf("just %d fees", found)
	}
}

// resultsOf are all results for a union.
func resultsOf(u api.Union) []any {
	balances, e := clubs.Accounts(u)
	all := []any{clubs.Check(u), balances, e}
	for id := range api.MaxBooking + 1 {
		price, tax, e := clubs.Price(u, id)
		all = append(all, price, tax, e)
	}
	for hut := range u.Chain.Huts {
		for _, need := range []int{0, 1, 1000, 100000} {
			fee, e := clubs.Raise(u, hut, need)
			all = append(all, fee, e)
		}
	}
	return all
}

func shuffled[T any](r *rand.Rand, list []T) []T {
	list = slices.Clone(list)
	r.Shuffle(len(list), func(i, j int) { list[i], list[j] = list[j], list[i] })
	return list
}

// TestP11_9: no result depends on the order of messages, guests, rights and works, nor on
// how often a message or a right is there.
func TestP11_9(t *testing.T) {
	for z, cases := range map[size]int{small(): 100, medium(): 30} {
		eachUnion(t, z, 9, cases, func(r *rand.Rand, u api.Union) {
			want := resultsOf(u)
			for range 3 {
				other := u
				other.Messages, other.Guests = shuffled(r, u.Messages), shuffled(r, u.Guests)
				other.Rights, other.Works = shuffled(r, u.Rights), shuffled(r, u.Works)
				if len(u.Messages) > 0 {
					other.Messages = append(other.Messages, u.Messages[r.Intn(len(u.Messages))])
				}
				if !reflect.DeepEqual(resultsOf(other), want) {
					t.Errorf("%+v has other results", other)
				}
			}
		})
	}
}

// TestP11_11: with one more right no price becomes higher; with a greater fee none becomes
// lower.
func TestP11_11(t *testing.T) {
	lower, higher := 0, 0
	for z, cases := range map[size]int{small(): 1000, medium(): 300, large(): 50} {
		eachUnion(t, z, 11, 2*cases, func(r *rand.Rand, u api.Union) {
			entitling, dear := u, withFee(u, 0, min(api.MaxFee, u.Fees[0]+r.Intn(z.fee)))
			entitling.Rights = append(slices.Clone(u.Rights), right(r.Intn(u.Clubs), r.Intn(u.Clubs)))
			more, much := pricesOf(t, entitling), pricesOf(t, dear)
			for id, x := range pricesOf(t, u) {
				if more[id][0] > x[0] || much[id][0] < x[0] || more[id][1] != x[1] || much[id][1] != x[1] {
					t.Errorf("the price of %d: %v, %v with %v, %v with the fee %d", id, x, more[id], entitling.Rights, much[id], dear.Fees[0])
				}
				lower += isTrue(more[id][0] < x[0])
				higher += isTrue(much[id][0] > x[0])
			}
		})
	}
	if min(lower, higher) < 50 {
		t.Errorf("just %d lower prices, and %d higher ones", lower, higher)
	}
}

// TestP11_12: the guests owe the prices and taxes of all accepted bookings, and the commune
// gets the taxes. Those who wait pay nothing: without them the accounts are the same.
func TestP11_12(t *testing.T) {
	waiting := 0
	for z, cases := range map[size]int{small(): 1000, medium(): 300, large(): 50} {
		eachUnion(t, z, 12, cases, func(r *rand.Rand, u api.Union) {
			prices, taxes := 0, 0
			for _, x := range pricesOf(t, u) {
				prices, taxes = prices+x[0], taxes+x[1]
			}
			balances := accountsOf(t, u)
			if balances[u.Clubs] != taxes || balances[u.Clubs+1] != -prices-taxes {
				t.Errorf("Accounts = %v, but %d are paid, and %d taxes", balances, prices, taxes)
			}
			wait, _ := beds.Waiting(u.Chain, u.Messages)
			alone := u
			alone.Messages = slices.DeleteFunc(slices.Clone(u.Messages), func(m api.Message) bool { return slices.Contains(wait, m.Id) })
			if other := accountsOf(t, alone); !slices.Equal(other, balances) {
				t.Errorf("Accounts = %v, but without %v %v", balances, wait, other)
			}
			for _, id := range wait {
				checkPrice(t, "waiting", u, id, -1, 0)
				waiting++
			}
		})
	}
	if waiting < 500 {
		t.Errorf("just %d that wait", waiting)
	}
}

// tourOver returns a tour over all huts of a union, between any two of which, and from and
// to which, a day leads.
func tourOver(r *rand.Rand, u api.Union) api.Tour {
	t := api.Tour{
		Net:   api.Net{Places: len(u.Chain.Huts) + 2},
		Party: api.Party{Grade: 1, Pace: api.Span{Low: 100, High: 100}},
		Chain: u.Chain, Messages: u.Messages,
		People: 1 + r.Intn(4), Start: 300, Dusk: 400, Late: 500, To: len(u.Chain.Huts) + 1, Id: -1,
	}
	for place := range len(u.Chain.Huts) + 1 {
		t.Net.Paths = append(t.Net.Paths, api.Path{
			From: place, To: place + 1, Grade: 1, Time: api.Span{Low: 100, High: 100}, Opens: []api.Span{{Low: 0, High: api.MaxMinute}},
		})
		if place < len(u.Chain.Huts) {
			t.Places = append(t.Places, place+1)
		}
	}
	return t
}

// TestP0_12_book: a new booking for a tour is accepted, and changes no price of the
// bookings that were accepted before.
func TestP0_12_book(t *testing.T) {
	booked := 0
	for z, cases := range map[size]int{small(): 1000, medium(): 500} {
		eachUnion(t, z, 121, cases, func(r *rand.Rand, u api.Union) {
			before := pricesOf(t, u)
			id := r.Intn(api.MaxBooking + 1)
			m, e := tours.Book(tourOver(r, u), id)
			if e != api.OK {
				return
			}
			u.Messages = append(slices.Clone(u.Messages), m)
			after := pricesOf(t, u)
			if _, ok := after[id]; !ok || len(after) != len(before)+1 {
				t.Errorf("%+v is not just accepted: %v, and before %v", m, after, before)
			}
			for other, x := range before {
				if after[other] != x {
					t.Errorf("the price of %d: %v, and before %+v %v", other, after[other], m, x)
				}
			}
			booked += isTrue(len(before) > 0)
		})
	}
	if booked < 100 {
		t.Errorf("just %d bookings", booked)
	}
}

// TestP0_12_cancel: a cancelled booking pays nothing, and whoever was before it in the
// queue pays the same.
func TestP0_12_cancel(t *testing.T) {
	same, others := 0, 0
	for z, cases := range map[size]int{small(): 1000, medium(): 300} {
		eachUnion(t, z, 122, cases, func(r *rand.Rand, u api.Union) {
			before := pricesOf(t, u)
			for id, m := range bookings(u) {
				gone := withMessages(u, cancel(id))
				checkPrice(t, "cancelled", gone, id, -1, 0)
				after := pricesOf(t, gone)
				for _, other := range u.Messages {
					if other.Kind == api.Request && isBefore(other, m) {
						if after[other.Id] != before[other.Id] {
							t.Errorf("the price of %d: %v, and before %d is cancelled %v", other.Id, after[other.Id], id, before[other.Id])
						}
						same += isTrue(before[other.Id] != [2]int{})
					}
				}
				others += isTrue(len(after) >= len(before))
			}
		})
	}
	if min(same, others) < 100 {
		t.Errorf("just %d that are before it, and %d cases with a booking that is accepted instead", same, others)
	}
}

// TestP0_12_settle: the accounts can be settled, with fewer transfers than there are
// accounts.
func TestP0_12_settle(t *testing.T) {
	for z, cases := range map[size]int{small(): 1000, medium(): 300, large(): 50} {
		eachUnion(t, z, 123, cases, func(r *rand.Rand, u api.Union) {
			balances := accountsOf(t, u)
			transfers, e := clubs.Settle(balances)
			if len(transfers) >= len(balances) || !settles(transfers, balances) || e != api.OK {
				t.Errorf("Accounts = %v, Settle = %v, %d", balances, transfers, e)
			}
		})
	}
}
