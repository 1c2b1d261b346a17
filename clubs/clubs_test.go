package clubs_test

import (
	"slices"
	"testing"

	"bivouac/api"
	"bivouac/clubs"
)

// checkPrice compares Price with the price and tax that are wanted; a price below 0
// stands for a booking that is not accepted.
func checkPrice(t *testing.T, what string, u api.Union, id, price, tax int) {
	t.Helper()
	want := api.OK
	if price < 0 {
		price, tax, want = 0, 0, api.ErrNone
	}
	if p, x, e := clubs.Price(u, id); p != price || x != tax || e != want {
		t.Errorf("%s: Price of %d = %d, %d, %d, want %d, %d, %d", what, id, p, x, e, price, tax, want)
	}
}

// TestP11_2_Price: the examples, and bookings that are not accepted: those that wait, are
// cancelled, or do not exist, also if they are among the guests.
func TestP11_2_Price(t *testing.T) {
	u := exampleU()
	checkPrice(t, "the example", u, 5, 7652, 450)
	checkPrice(t, "the example", u, 9, 5400, 450)
	for _, id := range []int{3, 8, 0, 4, 99, 100, -1, 1000000} {
		checkPrice(t, "not accepted", u, id, -1, 0)
	}
	known := changed(u, func(u *api.Union) { u.Guests = append(u.Guests, payer(3, 0, 0), payer(7, 0, 0)) })
	checkPrice(t, "a guest who waits", known, 3, -1, 0)
	checkPrice(t, "a guest without a booking", known, 7, -1, 0)
	gone := withMessages(u, cancel(5))
	checkPrice(t, "cancelled", gone, 5, -1, 0)
	checkPrice(t, "accepted instead", gone, 3, 12000, 600) // of no club
	checkPrice(t, "accepted instead", gone, 8, 8002, 450)
	checkPrice(t, "now waiting", gone, 9, -1, 0)
	checkPrice(t, "there twice", withMessages(u, u.Messages[3]), 9, 5400, 450)
}

// TestP11_2_people: who is a child, who is entitled, and for how many nights.
func TestP11_2_people(t *testing.T) {
	for _, x := range []struct {
		what       string
		change     func(u *api.Union)
		price, tax int
	}{
		{"nobody's member", func(u *api.Union) {}, 6000, 0},
		{"of no club", func(u *api.Union) { u.Guests = []api.Payer{payer(1, -1, 0)} }, 6000, 0},
		{"another guest", func(u *api.Union) { u.Guests = []api.Payer{payer(2, 0, 3)} }, 6000, 0},
		{"a member", func(u *api.Union) { u.Guests = []api.Payer{payer(1, 0, 0)} }, 3600, 0},
		{"a tax", func(u *api.Union) { u.Tax = 7 }, 6000, 42},
		{"a child", func(u *api.Union) { u.Tax = 7; u.Guests = []api.Payer{payer(1, -1, 1)} }, 5000, 28},
		{"a child of a member", func(u *api.Union) { u.Tax = 7; u.Guests = []api.Payer{payer(2, -1, 3), payer(1, 0, 1)} }, 3000, 28},
		{"children only", func(u *api.Union) { u.Tax = 7; u.Guests = []api.Payer{payer(1, 0, 3)} }, 1800, 0},
		{"more children than people", func(u *api.Union) { u.Tax = 7; u.Guests = []api.Payer{payer(1, -1, 4)} }, 3000, 0},
		{"many more", func(u *api.Union) { u.Tax = 7; u.Guests = []api.Payer{payer(1, -1, api.MaxBeds)} }, 3000, 0},
		{"a share of 0", func(u *api.Union) { u.Shares, u.Guests = [][]int{{0, 100}}, []api.Payer{payer(1, 0, 0)} }, 6000, 0},
		{"a share of 1", func(u *api.Union) { u.Shares, u.Guests = [][]int{{1, 99}}, []api.Payer{payer(1, 0, 0)} }, 3600, 0},
		{"a right", func(u *api.Union) {
			u.Shares, u.Guests, u.Rights = [][]int{{0, 100}}, []api.Payer{payer(1, 0, 0)}, []api.Right{right(0, 1)}
		}, 3600, 0},
		{"a right of the owner", func(u *api.Union) {
			u.Shares, u.Guests, u.Rights = [][]int{{0, 100}}, []api.Payer{payer(1, 0, 0)}, []api.Right{right(1, 0)}
		}, 6000, 0},
		{"a right in itself", func(u *api.Union) {
			u.Shares, u.Guests, u.Rights = [][]int{{0, 100}}, []api.Payer{payer(1, 0, 0)}, []api.Right{right(0, 0)}
		}, 6000, 0},
		{"an owner's right in itself", func(u *api.Union) {
			u.Guests, u.Rights = []api.Payer{payer(1, 0, 0)}, []api.Right{right(0, 0)}
		}, 3600, 0},
		{"a right over another club", func(u *api.Union) {
			u.Clubs, u.Shares, u.Guests = 3, [][]int{{0, 0, 100}}, []api.Payer{payer(1, 0, 0)}
			u.Rights = []api.Right{right(0, 1), right(1, 2)}
		}, 6000, 0},
		{"the second right", func(u *api.Union) {
			u.Clubs, u.Shares, u.Guests = 3, [][]int{{0, 0, 100}}, []api.Payer{payer(1, 0, 0)}
			u.Rights = []api.Right{right(0, 1), right(0, 2), right(0, 2)}
		}, 3600, 0},
		{"no club with a right", func(u *api.Union) { u.Rights = []api.Right{right(0, 0)} }, 6000, 0},
	} {
		u := bare(3, 2)
		u.Member, u.Child = 40, 50
		x.change(&u)
		u.Clubs = len(u.Shares[0])
		checkPrice(t, x.what, u, 1, x.price, x.tax)
	}
}

// TestP11_2_rounding: the price of an adult is rounded up, and then that of a child, each
// for one person and one night.
func TestP11_2_rounding(t *testing.T) {
	for _, x := range []struct{ fee, member, child, children, price int }{
		{1000, 0, 50, 0, 6000}, {1000, 100, 50, 0, 0}, {1000, 100, 50, 3, 0}, {1000, 0, 0, 3, 0}, {1000, 0, 100, 3, 6000},
		{1001, 50, 100, 0, 3006}, {1, 99, 100, 0, 6}, {1, 1, 100, 0, 6}, {101, 1, 100, 0, 600}, {100, 1, 100, 0, 594}, {102, 1, 100, 0, 606}, {0, 50, 50, 1, 0},
		{1001, 50, 50, 3, 1506}, {999, 50, 50, 3, 1500}, {3, 67, 50, 3, 6}, {3, 66, 50, 3, 6}, {4, 66, 50, 3, 6}, {5, 40, 34, 3, 12}, {7, 0, 1, 3, 6},
		{1001, 50, 50, 1, 2004 + 502}, {100000, 33, 33, 2, 2*67000 + 4*22110}, {99999, 33, 33, 2, 2*67000 + 4*22110}, {99998, 33, 33, 2, 2*66999 + 4*22110},
	} {
		u := bare(3, 2)
		u.Fees, u.Member, u.Child, u.Guests = []int{x.fee}, x.member, x.child, []api.Payer{payer(1, 0, x.children)}
		checkPrice(t, "rounded", u, 1, x.price, 0)
	}
}

// TestP11_3_Accounts: the example, nothing at all, each part alone, and a cent that is
// split in each stay.
func TestP11_3_Accounts(t *testing.T) {
	two := bare(2, 3)
	two.Clubs, two.Shares, two.Fees, two.Tax = 2, [][]int{{50, 50}}, []int{1}, 10
	two.Messages = []api.Message{request(1, 0, 1, stay(0, 0, 0), stay(0, 1, 1), stay(0, 2, 2)), request(2, 0, 1, stay(0, 0, 2))}
	works := bare(1, 1)
	works.Messages, works.Clubs, works.Shares, works.Credit = nil, 3, [][]int{{33, 33, 34}}, 101
	for i, x := range []struct {
		u    api.Union
		want []int
	}{
		{exampleU(), []int{8480, 4403, 169, 900, -13952}},
		{changed(exampleU(), func(u *api.Union) { u.Messages = nil }), []int{2000, -660, -1340, 0, 0}},
		{changed(exampleU(), func(u *api.Union) { u.Works = nil }), []int{6480, 5063, 1509, 900, -13952}},
		{changed(exampleU(), func(u *api.Union) { u.Works = append(u.Works, work(1, 0, 3), work(1, 0, 0)) }), []int{6680, 6203, 169, 900, -13952}},
		{changed(exampleU(), func(u *api.Union) { u.Tax, u.Credit = 0, 0 }), []int{6480, 5063, 1509, 0, -13052}},
		{withMessages(exampleU(), cancel(5), cancel(9), cancel(3), cancel(8)), []int{2000, -660, -1340, 0, 0}},
		{withMessages(exampleU(), exampleU().Messages...), []int{8480, 4403, 169, 900, -13952}},
		{bare(3, 2), []int{6000, 0, -6000}},
		{changed(bare(3, 2), func(u *api.Union) { u.Messages = nil }), []int{0, 0, 0}},
		{changed(bare(3, 2), func(u *api.Union) { u.Credit, u.Works = 100, []api.Work{work(0, 0, 2)} }), []int{6000, 0, -6000}},
		{two, []int{5, 1, 60, -66}}, // three stays of a cent, and one of three
		{changed(works, func(u *api.Union) { u.Works = []api.Work{work(1, 0, 1)} }), []int{-33, 68, -35, 0, 0}},
		{changed(works, func(u *api.Union) { u.Works = []api.Work{work(1, 0, 1), work(1, 0, 1)} }), []int{-66, 136, -70, 0, 0}},
		{changed(works, func(u *api.Union) { u.Works = []api.Work{work(1, 0, 2)} }), []int{-67, 136, -69, 0, 0}},
	} {
		if balances, e := clubs.Accounts(x.u); !slices.Equal(balances, x.want) || e != api.OK {
			t.Errorf("%d: Accounts = %v, %d, want %v", i, balances, e, x.want)
		}
	}
}

// TestP11_4_Split: the examples, no cent, one cent, clubs without a share, and several
// that are rounded by equally much.
func TestP11_4_Split(t *testing.T) {
	for _, x := range []struct {
		amount int
		shares []int
		want   []int
	}{
		{2252, []int{0, 33, 67}, []int{0, 743, 1509}}, {10, []int{33, 33, 34}, []int{3, 3, 4}},
		{0, []int{33, 33, 34}, []int{0, 0, 0}}, {0, []int{100}, []int{0}}, {1, []int{100}, []int{1}}, {1, []int{50, 50}, []int{1, 0}}, {3, []int{50, 50}, []int{2, 1}}, {1, []int{49, 51}, []int{0, 1}},
		{1, []int{0, 50, 50, 0}, []int{0, 1, 0, 0}}, {1, []int{0, 0, 0, 0, 0, 100}, []int{0, 0, 0, 0, 0, 1}}, {7, []int{0, 0, 0, 0, 0, 100}, []int{0, 0, 0, 0, 0, 7}},
		{1, []int{16, 17, 17, 17, 17, 16}, []int{0, 1, 0, 0, 0, 0}}, {2, []int{16, 17, 17, 17, 17, 16}, []int{0, 1, 1, 0, 0, 0}}, {4, []int{16, 17, 17, 17, 17, 16}, []int{0, 1, 1, 1, 1, 0}}, {5, []int{16, 17, 17, 17, 17, 16}, []int{1, 1, 1, 1, 1, 0}}, {6, []int{16, 17, 17, 17, 17, 16}, []int{1, 1, 1, 1, 1, 1}},
		{50, []int{33, 33, 34}, []int{17, 16, 17}}, {150, []int{33, 33, 34}, []int{50, 49, 51}}, {2, []int{10, 30, 60}, []int{0, 1, 1}}, {3, []int{10, 30, 60}, []int{0, 1, 2}}, {4, []int{10, 30, 60}, []int{1, 1, 2}},
		{100, []int{1, 2, 3, 4, 5, 85}, []int{1, 2, 3, 4, 5, 85}}, {99, []int{1, 2, 3, 4, 5, 85}, []int{1, 2, 3, 4, 5, 84}}, {101, []int{1, 2, 3, 4, 5, 85}, []int{1, 2, 3, 4, 5, 86}},
		{1000000000, []int{1, 99}, []int{10000000, 990000000}}, {999999999, []int{1, 99}, []int{10000000, 989999999}}, {999999999, []int{33, 33, 34}, []int{330000000, 330000000, 339999999}}, {999999950, []int{1, 1, 98}, []int{10000000, 9999999, 979999951}},
	} {
		parts, e := clubs.Split(x.amount, x.shares)
		if !slices.Equal(parts, x.want) || e != api.OK {
			t.Errorf("Split of %d by %v = %v, %d, want %v", x.amount, x.shares, parts, e, x.want)
		}
	}
}

// checkSettle compares Fewest with the number that is wanted, and checks the transfers of
// Settle.
func checkSettle(t *testing.T, balances []int, want int) {
	t.Helper()
	if count, e := clubs.Fewest(balances); count != want || e != api.OK {
		t.Errorf("Fewest of %v = %d, %d, want %d", balances, count, e, want)
	}
	transfers, e := clubs.Settle(balances)
	if len(transfers) != want || !settles(transfers, balances) || e != api.OK {
		t.Errorf("Settle of %v = %v, %d", balances, transfers, e)
	}
}

// TestP11_5_Settle: the examples, nothing to settle, pairs, groups that are not found by
// paying the greatest balance first, and the greatest amounts.
func TestP11_5_Settle(t *testing.T) {
	for _, x := range []struct {
		balances []int
		want     int
	}{
		{[]int{5, -5, 3, -2, -1}, 3}, {[]int{7, -3, -4}, 2}, {exampleAccounts(), 4},
		{nil, 0}, {[]int{}, 0}, {[]int{0}, 0}, {[]int{0, 0, 0, 0, 0, 0, 0, 0}, 0}, {[]int{1, -1}, 1}, {[]int{-1, 1}, 1}, {[]int{0, -1, 0, 1, 0}, 1},
		{[]int{1, 1, -2}, 2}, {[]int{1, 1, -1, -1}, 2}, {[]int{1, -1, 2, -2, 3, -3, 4, -4}, 4}, {[]int{4, -1, 3, -2, 2, -3, 1, -4}, 4}, {[]int{5, 5, 5, 5, -5, -5, -5, -5}, 4},
		{[]int{5, 3, -4, -4}, 3}, {[]int{6, 4, 1, -5, -6}, 3}, {[]int{7, 5, -6, -4, -2}, 4}, {[]int{7, 5, -6, -5, -1}, 3}, {[]int{9, 5, 4, -6, -6, -6}, 5}, {[]int{10, 7, 1, -8, -4, -6}, 4}, {[]int{3, 3, 3, 3, -4, -8, 0, 0}, 5},
		{[]int{2, 3, 4, -9, 5, 6, 7, -18}, 6}, {[]int{2, 3, -5, 4, 5, -9, 6, -6}, 5}, {[]int{7, 9, 20, 1, -8, -3, -26, 0}, 5}, {[]int{1, 2, 4, 8, 16, 32, 64, -127}, 7}, {[]int{-127, 64, 32, 16, 8, 4, 2, 1}, 7}, {[]int{127, -1, -2, -4, -8, -16, -32, -64}, 7},
		{[]int{1000000000, -1000000000}, 1}, {[]int{1000000000, -999999999, -1}, 2}, {[]int{1000000000, 1000000000, 1000000000, 1000000000, -1000000000, -1000000000, -1000000000, -1000000000}, 4},
	} {
		checkSettle(t, x.balances, x.want)
	}
	transfers, _ := clubs.Settle([]int{7, -3, -4})
	slices.SortFunc(transfers, func(a, b api.Transfer) int { return a.From - b.From })
	if !slices.Equal(transfers, []api.Transfer{{From: 1, To: 0, Amount: 3}, {From: 2, To: 0, Amount: 4}}) {
		t.Errorf("Settle of the example = %v", transfers)
	}
}

func exampleAccounts() []int { return []int{8480, 4403, 169, 900, -13952} }

// TestP11_7_Raise: the example, nothing that is needed, what no fee brings in, and the
// ends.
func TestP11_7_Raise(t *testing.T) {
	free := changed(bare(3, 2), func(u *api.Union) { u.Member, u.Guests = 100, []api.Payer{payer(1, 0, 0)} })
	kids := changed(bare(3, 2), func(u *api.Union) { u.Child, u.Guests = 1, []api.Payer{payer(1, -1, 3)} })
	for _, x := range []struct {
		what            string
		u               api.Union
		hut, need, want int
	}{
		{"the example", exampleU(), 1, 3000, 3332}, {"one cent less", exampleU(), 1, 2999, 3331}, {"two cents less", exampleU(), 1, 2998, 3331}, {"three cents less", exampleU(), 1, 2997, 3329}, {"one cent more", exampleU(), 1, 3001, 3334},
		{"the other hut", exampleU(), 0, 10800, 2999}, {"the other hut, one cent more", exampleU(), 0, 10801, 3001}, {"one cent", exampleU(), 0, 1, 1},
		{"nothing", exampleU(), 0, 0, 0}, {"nothing", bare(1, 1), 0, 0, 0}, {"without bookings", changed(bare(1, 1), func(u *api.Union) { u.Messages = nil }), 0, 0, 0}, {"without bookings, but needed", changed(bare(1, 1), func(u *api.Union) { u.Messages = nil }), 0, 1, -1},
		{"one person", bare(1, 1), 0, 1, 1}, {"one person", bare(1, 1), 0, 99999, 99999}, {"the greatest fee", bare(1, 1), 0, 100000, 100000}, {"more than that", bare(1, 1), 0, 100001, -1}, {"the greatest need", bare(1, 1), 0, 1000000000, -1},
		{"six nights", bare(3, 2), 0, 6, 1}, {"six nights", bare(3, 2), 0, 7, 2}, {"six nights", bare(3, 2), 0, 600000, 100000}, {"six nights", bare(3, 2), 0, 599995, 100000}, {"six nights", bare(3, 2), 0, 599994, 99999}, {"six nights", bare(3, 2), 0, 600001, -1},
		{"those who pay nothing", free, 0, 1, -1}, {"those who pay nothing", free, 0, 0, 0}, {"children", kids, 0, 6, 1}, {"children", kids, 0, 7, 101}, {"children", kids, 0, 6000, 99901}, {"children", kids, 0, 6001, -1},
		{"cancelled", withMessages(bare(1, 1), cancel(1)), 0, 1, -1}, {"the tax does not count", changed(bare(1, 1), func(u *api.Union) { u.Tax = 500 }), 0, 1000, 1000},
		{"a hut without a guest", changed(exampleU(), func(u *api.Union) { u.Messages = u.Messages[1:2] }), 1, 1, -1},
	} {
		want := api.OK
		if x.want < 0 {
			x.want, want = 0, api.ErrNone
		}
		if fee, e := clubs.Raise(x.u, x.hut, x.need); fee != x.want || e != want {
			t.Errorf("%s: Raise of %d to %d = %d, %d, want %d, %d", x.what, x.hut, x.need, fee, e, x.want, want)
		}
	}
}
