package clubs_test

import (
	"math"
	"math/rand"
	"reflect"
	"slices"
	"strings"
	"testing"

	"bivouac/api"
	"bivouac/clubs"
)

// arguments are all that the functions of the package have.
type arguments struct {
	u        api.Union
	id       int
	amount   int
	shares   []int
	balances []int
	hut      int
	need     int
}

// calls are all functions of the package; each returns the other results, and the error.
var calls = []struct {
	name string
	call func(a arguments) ([]any, api.Errno)
	// uses tells what can be wrong with the arguments.
	uses string
}{
	{"Check", func(a arguments) ([]any, api.Errno) { return nil, clubs.Check(a.u) }, "chain messages clash union"},
	{"Price", func(a arguments) ([]any, api.Errno) {
		price, tax, e := clubs.Price(a.u, a.id)
		return []any{price, tax}, e
	}, "chain messages clash union id"},
	{"Accounts", func(a arguments) ([]any, api.Errno) {
		balances, e := clubs.Accounts(a.u)
		return []any{balances}, e
	}, "chain messages clash union"},
	{"Split", func(a arguments) ([]any, api.Errno) {
		parts, e := clubs.Split(a.amount, a.shares)
		return []any{parts}, e
	}, "amount shares"},
	{"Settle", func(a arguments) ([]any, api.Errno) {
		transfers, e := clubs.Settle(a.balances)
		return []any{transfers}, e
	}, "balances"},
	{"Fewest", func(a arguments) ([]any, api.Errno) {
		count, e := clubs.Fewest(a.balances)
		return []any{count}, e
	}, "balances"},
	{"Raise", func(a arguments) ([]any, api.Errno) {
		fee, e := clubs.Raise(a.u, a.hut, a.need)
		return []any{fee}, e
	}, "chain messages clash union hut need income"},
}

// steps are the errors in their order: what makes an argument wrong, and the error. What
// comes in a later step leaves right what the earlier ones are about.
var steps = []struct {
	name  string
	spoil func(a *arguments)
	e     api.Errno
}{
	{"chain", func(a *arguments) { a.u.Chain.Huts[0].Beds = api.MaxBeds + 1 }, api.ErrChain},
	{"messages", func(a *arguments) { a.u.Messages[2].People = 0 }, api.ErrMessages},
	{"clash", func(a *arguments) { a.u.Messages[2].Id = 3 }, api.ErrClash},
	{"union", func(a *arguments) { a.u.Credit = -1 }, api.ErrUnion},
	{"hut", func(a *arguments) { a.hut = 2 }, api.ErrArg},
	{"need", func(a *arguments) { a.need = api.MaxAmount + 1 }, api.ErrArg},
	{"income", func(a *arguments) { a.need = api.MaxAmount }, api.ErrNone},
	{"id", func(a *arguments) { a.id = 8 }, api.ErrNone},
	{"amount", func(a *arguments) { a.amount = -1 }, api.ErrArg},
	{"shares", func(a *arguments) { a.shares[0] = 34 }, api.ErrArg},
	{"balances", func(a *arguments) { a.balances[0] = 8 }, api.ErrBalances},
}

// hasStep reports whether a function can find the error of a step.
func hasStep(uses, step string) bool { return slices.Contains(strings.Fields(uses), step) }

// goodArguments are arguments with which no function has an error.
func goodArguments() arguments {
	return arguments{u: exampleU(), id: 5, amount: 2252, shares: []int{33, 0, 67}, balances: []int{7, 0, -3, -4}, hut: 1, need: 3000}
}

func isZero(results []any) bool {
	return !slices.ContainsFunc(results, func(x any) bool {
		v := reflect.ValueOf(x)
		return !v.IsZero() && (v.Kind() != reflect.Slice || v.Len() > 0)
	})
}

// check calls all functions that can find the error of a step, with changed arguments.
func check(t *testing.T, what string, i int, step string, change func(a *arguments), want api.Errno) {
	t.Helper()
	for _, f := range calls {
		if !hasStep(f.uses, step) {
			continue
		}
		a := goodArguments()
		change(&a)
		if results, e := f.call(a); e != want || e != api.OK && !isZero(results) {
			t.Errorf("%s with %s %d: %v, %d, want %d", f.name, what, i, results, e, want)
		}
	}
}

// TestP1_order: each function returns the first of several errors, and then all its other
// results are zero. From some step on all that a function has is wrong.
func TestP1_order(t *testing.T) {
	for _, f := range calls {
		for first := range len(steps) + 1 {
			a, want := goodArguments(), api.OK
			for i := len(steps) - 1; i >= first; i-- {
				if hasStep(f.uses, steps[i].name) {
					steps[i].spoil(&a)
					want = steps[i].e
				}
			}
			if results, e := f.call(a); e != want || e != api.OK && !isZero(results) {
				t.Errorf("%s with errors from %d on: %v, %d, want %d", f.name, first, results, e, want)
			}
		}
	}
}

// TestP1_pairs: so it is with any one error, and any two.
func TestP1_pairs(t *testing.T) {
	for i, one := range steps {
		check(t, "wrong "+one.name, i, one.name, one.spoil, one.e)
		for _, two := range steps[i+1:] {
			for _, f := range calls {
				if !hasStep(f.uses, one.name) || !hasStep(f.uses, two.name) {
					continue
				}
				a := goodArguments()
				two.spoil(&a)
				one.spoil(&a)
				if results, e := f.call(a); e != one.e || !isZero(results) {
					t.Errorf("%s with wrong %s and %s: %v, %d, want %d", f.name, one.name, two.name, results, e, one.e)
				}
			}
		}
	}
}

// TestP1_messages: what makes a chain or messages invalid is told by beds; here are some
// ways.
func TestP1_messages(t *testing.T) {
	for i, change := range []func(c *api.Chain){
		func(c *api.Chain) { *c = api.Chain{} }, func(c *api.Chain) { c.Huts = slices.Repeat(c.Huts, 4) }, func(c *api.Chain) { c.Nights = 21 }, func(c *api.Chain) { c.Huts[1].Emergency = -1 },
	} {
		check(t, "the chain", i, "chain", func(a *arguments) { change(&a.u.Chain) }, api.ErrChain)
	}
	check(t, "nothing at all", 0, "chain", func(a *arguments) { *a = arguments{} }, api.ErrChain)
	for i, m := range []api.Message{{}, {Kind: 3, Id: 1}, request(100, 0, 1, stay(0, 0, 0)), request(1, 0, 1, stay(2, 0, 0)), request(1, 0, 1, stay(0, 3, 4)), request(1, 0, 1), cancel(-1)} {
		check(t, "the message", i, "messages", func(a *arguments) { a.u.Messages[1] = m }, api.ErrMessages)
	}
	check(t, "too many messages", 41, "messages", func(a *arguments) { a.u.Messages = slices.Repeat(a.u.Messages[:1], 41) }, api.ErrMessages)
	check(t, "another stay", 0, "clash", func(a *arguments) { a.u.Messages = append(a.u.Messages, request(5, 10, 2, stay(0, 0, 1))) }, api.ErrClash)
}

// wild are numbers that are never valid.
var wild = []int{math.MinInt, math.MaxInt, math.MinInt + 1, math.MaxInt - 1}

// checkNumber asks with a number at its limits, and outside of them.
func checkNumber(t *testing.T, what string, low, high int, field func(u *api.Union) *int) {
	t.Helper()
	for _, x := range append([]int{low - 1, high + 1}, wild...) {
		check(t, what, x, "union", func(a *arguments) { *field(&a.u) = x }, api.ErrUnion)
	}
	for _, x := range []int{low, high} {
		u := exampleU()
		*field(&u) = x
		if e := clubs.Check(u); e != api.OK {
			t.Errorf("Check with %s %d: %d", what, x, e)
		}
	}
}

// TestP11_1_Check: each number of a union at its limits, and outside of them.
func TestP11_1_Check(t *testing.T) {
	for hut := range 2 {
		checkNumber(t, "a fee", 0, 100000, func(u *api.Union) *int { return &u.Fees[hut] })
	}
	for i := range 2 {
		checkNumber(t, "a guest's club", -1, 2, func(u *api.Union) *int { return &u.Guests[i].Club })
		checkNumber(t, "the children", 0, 20, func(u *api.Union) *int { return &u.Guests[i].Children })
		checkNumber(t, "a guest's Id", 0, 99, func(u *api.Union) *int { return &u.Guests[i].Id })
	}
	checkNumber(t, "a right's club", 0, 2, func(u *api.Union) *int { return &u.Rights[0].Club })
	checkNumber(t, "a right's other club", 0, 2, func(u *api.Union) *int { return &u.Rights[0].In })
	checkNumber(t, "a work's club", 0, 2, func(u *api.Union) *int { return &u.Works[0].Club })
	checkNumber(t, "a work's hut", 0, 1, func(u *api.Union) *int { return &u.Works[0].Hut })
	checkNumber(t, "a work's nights", 0, 20, func(u *api.Union) *int { return &u.Works[0].Nights })
	checkNumber(t, "Member", 0, 100, func(u *api.Union) *int { return &u.Member })
	checkNumber(t, "Child", 0, 100, func(u *api.Union) *int { return &u.Child })
	checkNumber(t, "the Tax", 0, 100000, func(u *api.Union) *int { return &u.Tax })
	checkNumber(t, "the Credit", 0, 100000, func(u *api.Union) *int { return &u.Credit })
	checkNumber(t, "the clubs", 3, 3, func(u *api.Union) *int { return &u.Clubs })
	for i, u := range []api.Union{exampleU(), bare(1, 1), fullUnion(), changed(exampleU(), func(u *api.Union) { u.Guests, u.Rights, u.Works = nil, nil, nil })} {
		if e := clubs.Check(u); e != api.OK {
			t.Errorf("Check of the valid union %d: %d", i, e)
		}
	}
}

// rowsOf returns a row of shares for each hut of the example.
func rowsOf(row ...int) [][]int { return [][]int{row, {0, 33, 67}} }

// TestP11_1_shares: rows for other huts and clubs, and those that are not a whole.
func TestP11_1_shares(t *testing.T) {
	for i, x := range []struct {
		shares [][]int
		e      api.Errno
	}{
		{rowsOf(60, 40, 0), api.OK}, {rowsOf(100, 0, 0), api.OK}, {rowsOf(0, 0, 100), api.OK}, {rowsOf(33, 33, 34), api.OK},
		{rowsOf(60, 40, 1), api.ErrUnion}, {rowsOf(60, 39, 0), api.ErrUnion}, {rowsOf(0, 0, 0), api.ErrUnion}, {rowsOf(101, -1, 0), api.ErrUnion}, {rowsOf(101, 0, -1), api.ErrUnion}, {rowsOf(-1, 50, 51), api.ErrUnion}, {rowsOf(101, 0, 0), api.ErrUnion}, {rowsOf(100, 100, -100), api.ErrUnion}, {rowsOf(math.MaxInt, math.MaxInt, 102), api.ErrUnion}, {rowsOf(math.MinInt, math.MinInt, 100), api.ErrUnion},
		{rowsOf(60, 40), api.ErrUnion}, {rowsOf(100), api.ErrUnion}, {rowsOf(), api.ErrUnion}, {rowsOf(60, 40, 0, 0), api.ErrUnion}, {[][]int{{60, 40, 0}, nil}, api.ErrUnion}, {[][]int{{60, 40, 0}, {60, 40, 1}}, api.ErrUnion},
		{nil, api.ErrUnion}, {rowsOf(60, 40, 0)[:1], api.ErrUnion}, {append(rowsOf(60, 40, 0), []int{60, 40, 0}), api.ErrUnion},
	} {
		check(t, "the shares", i, "union", func(a *arguments) {
			a.u.Shares = x.shares
			a.need = 0 // as other shares bring in something else
		}, x.e)
	}
	for i, fees := range [][]int{nil, {}, {3000}, {3000, 2501, 0}, slices.Repeat([]int{1}, 100)} {
		check(t, "the fees of other huts", i, "union", func(a *arguments) { a.u.Fees = fees }, api.ErrUnion)
	}
	for _, clubs := range []int{0, 1, 2, 4, 6, 7, -1} {
		check(t, "other clubs than the rows", clubs, "union", func(a *arguments) { a.u.Clubs = clubs }, api.ErrUnion)
	}
	check(t, "no clubs", 0, "union", func(a *arguments) { a.u.Clubs, a.u.Shares = 0, [][]int{{}, {}} }, api.ErrUnion)
	more := func(clubs int) func(a *arguments) {
		return func(a *arguments) {
			a.u.Clubs = clubs
			for hut, row := range a.u.Shares {
				a.u.Shares[hut] = append(row, make([]int, clubs-3)...)
			}
		}
	}
	check(t, "more clubs", 6, "union", more(6), api.OK)
	check(t, "more clubs", 7, "union", more(7), api.ErrUnion)
}

// guestsOf returns guests with the Ids from 0 on.
func guestsOf(count int) []api.Payer {
	var guests []api.Payer
	for id := range count {
		guests = append(guests, payer(id, -1, 0))
	}
	return guests
}

// TestP11_1_lists: too many guests, rights and works, and just as many as there may be;
// guests with the same Id, and equal rights and works.
func TestP11_1_lists(t *testing.T) {
	for i, x := range []struct {
		change func(u *api.Union)
		e      api.Errno
	}{
		{func(u *api.Union) { u.Guests = guestsOf(40) }, api.OK}, {func(u *api.Union) { u.Guests = guestsOf(41) }, api.ErrUnion}, {func(u *api.Union) { u.Guests = slices.Repeat(u.Guests[:1], 41) }, api.ErrUnion},
		{func(u *api.Union) { u.Guests[1].Id = 5 }, api.ErrUnion}, {func(u *api.Union) { u.Guests = append(u.Guests, payer(7, 0, 0), payer(5, 1, 1)) }, api.ErrUnion}, {func(u *api.Union) { u.Guests = append(u.Guests, payer(7, 0, 0), payer(0, 1, 1)) }, api.OK},
		{func(u *api.Union) { u.Rights = slices.Repeat(u.Rights, 12) }, api.OK}, {func(u *api.Union) { u.Rights = slices.Repeat(u.Rights, 13) }, api.ErrUnion}, {func(u *api.Union) { u.Rights = append(u.Rights, right(1, 3)) }, api.ErrUnion}, {func(u *api.Union) { u.Rights = append(u.Rights, right(-1, 0)) }, api.ErrUnion}, {func(u *api.Union) { u.Rights = append(u.Rights, right(1, 1)) }, api.OK},
		{func(u *api.Union) { u.Works = slices.Repeat(u.Works, 20) }, api.OK}, {func(u *api.Union) { u.Works = slices.Repeat(u.Works, 21) }, api.ErrUnion}, {func(u *api.Union) { u.Works = append(u.Works, work(-1, 0, 1)) }, api.ErrUnion}, {func(u *api.Union) { u.Works = append(u.Works, work(0, 2, 1)) }, api.ErrUnion}, {func(u *api.Union) { u.Works = append(u.Works, work(0, 1, 2)) }, api.OK},
	} {
		check(t, "the list", i, "union", func(a *arguments) { x.change(&a.u); a.id = 9 }, x.e)
	}
}

// TestP11_4_errors: amounts and shares that are not as described, at their limits.
func TestP11_4_errors(t *testing.T) {
	for _, x := range []struct {
		amount int
		e      api.Errno
	}{{0, api.OK}, {1, api.OK}, {1000000000, api.OK}, {-1, api.ErrArg}, {1000000001, api.ErrArg}, {math.MaxInt, api.ErrArg}, {math.MinInt, api.ErrArg}} {
		check(t, "the amount", x.amount, "amount", func(a *arguments) { a.amount = x.amount }, x.e)
	}
	for i, x := range []struct {
		shares []int
		e      api.Errno
	}{
		{[]int{100}, api.OK}, {[]int{100, 0}, api.OK}, {[]int{0, 100}, api.OK}, {[]int{16, 17, 17, 17, 17, 16}, api.OK}, {[]int{0, 0, 0, 0, 0, 100}, api.OK},
		{nil, api.ErrArg}, {[]int{}, api.ErrArg}, {[]int{0}, api.ErrArg}, {[]int{99}, api.ErrArg}, {[]int{101}, api.ErrArg}, {[]int{50, 49}, api.ErrArg}, {[]int{50, 51}, api.ErrArg}, {[]int{101, -1}, api.ErrArg}, {[]int{-1, 101}, api.ErrArg}, {[]int{50, 51, -1}, api.ErrArg}, {[]int{101, 0, -1}, api.ErrArg},
		{[]int{16, 17, 17, 17, 17, 16, 0}, api.ErrArg}, {make([]int, 7), api.ErrArg}, {[]int{0, 0, 0, 0, 0, 0, 100}, api.ErrArg}, {[]int{math.MaxInt, math.MaxInt, 102}, api.ErrArg}, {[]int{math.MinInt, math.MinInt, 100}, api.ErrArg},
	} {
		check(t, "the shares", i, "shares", func(a *arguments) { a.shares = x.shares }, x.e)
	}
}

// TestP11_5_errors: too many balances, too great ones, and those that are not 0 together.
func TestP11_5_errors(t *testing.T) {
	for i, x := range []struct {
		balances []int
		e        api.Errno
	}{
		{nil, api.OK}, {[]int{0}, api.OK}, {make([]int, 8), api.OK}, {[]int{1000000000, -1000000000}, api.OK}, {[]int{0, 0, 0, 0, 0, 0, 1, -1}, api.OK},
		{make([]int, 9), api.ErrBalances}, {[]int{1, -1, 0, 0, 0, 0, 0, 0, 0}, api.ErrBalances}, {make([]int, 1000), api.ErrBalances}, {[]int{1}, api.ErrBalances}, {[]int{-1}, api.ErrBalances}, {[]int{1, -2}, api.ErrBalances}, {[]int{2, -1}, api.ErrBalances}, {[]int{1, 1, 1, 1, -1, -1, -1, -2}, api.ErrBalances},
		{[]int{1000000001, -1000000001}, api.ErrBalances}, {[]int{1000000001, -1000000000, -1}, api.ErrBalances}, {[]int{-1000000001, 1000000000, 1}, api.ErrBalances}, {[]int{math.MinInt, math.MinInt}, api.ErrBalances}, {[]int{math.MaxInt, math.MaxInt, 2}, api.ErrBalances}, {[]int{math.MaxInt, -math.MaxInt}, api.ErrBalances},
	} {
		check(t, "the balances", i, "balances", func(a *arguments) { a.balances = x.balances }, x.e)
	}
}

// TestP11_7_errors: huts and needs that are not as described, at their limits, and what no
// fee brings in.
func TestP11_7_errors(t *testing.T) {
	for _, hut := range []int{-1, 2, 6, math.MaxInt, math.MinInt} {
		check(t, "the hut", hut, "hut", func(a *arguments) { a.hut = hut }, api.ErrArg)
	}
	for _, x := range []struct {
		need int
		e    api.Errno
	}{{0, api.OK}, {90000, api.OK}, {90001, api.ErrNone}, {1000000000, api.ErrNone}, {-1, api.ErrArg}, {1000000001, api.ErrArg}, {math.MaxInt, api.ErrArg}, {math.MinInt, api.ErrArg}} {
		check(t, "the need", x.need, "need", func(a *arguments) { a.need = x.need }, x.e)
	}
	for _, id := range []int{3, 8, -1, 0, 4, 99, 100, math.MaxInt, math.MinInt} {
		check(t, "the Id", id, "id", func(a *arguments) { a.id = id }, api.ErrNone)
	}
}

// spoilResults writes into all memory of results.
func spoilResults(results []any) {
	for _, x := range results {
		switch x := x.(type) {
		case []int:
			for i := range x {
				x[i] = -7
			}
		case []api.Transfer:
			for i := range x {
				x[i] = api.Transfer{From: -7, To: -7, Amount: -7}
			}
		}
	}
}

// TestP1_memory: no argument is changed, no result shares memory with one, and nothing is
// kept.
func TestP1_memory(t *testing.T) {
	for _, f := range calls {
		given := goodArguments()
		first, _ := f.call(given)
		spoilResults(first)
		if !reflect.DeepEqual(given, goodArguments()) {
			t.Errorf("%s changes its arguments: %+v", f.name, given)
		}
		again, _ := f.call(given)
		if fresh, _ := f.call(goodArguments()); !reflect.DeepEqual(again, fresh) {
			t.Errorf("%s keeps something: %v, %v", f.name, again, fresh)
		}
	}
}

// TestP1_capacity: what lies behind the end of a slice is neither read nor changed; nil
// and empty slices are the same.
func TestP1_capacity(t *testing.T) {
	a := goodArguments()
	u := &a.u
	u.Messages, u.Fees, u.Shares = append(u.Messages, cancel(-1))[:4], append(u.Fees, -1)[:2], append(u.Shares, nil)[:2]
	u.Shares[0], u.Shares[1] = append(u.Shares[0], -1)[:3], append(u.Shares[1], -1)[:3]
	u.Guests, u.Rights, u.Works = append(u.Guests, payer(-1, -1, -1))[:2], append(u.Rights, right(-1, -1))[:1], append(u.Works, work(-1, -1, -1))[:1]
	a.shares, a.balances = append(a.shares, -1)[:3], append(a.balances, -1)[:4]
	for _, f := range calls {
		results, e := f.call(a)
		if want, e2 := f.call(goodArguments()); !reflect.DeepEqual(results, want) || e != e2 {
			t.Errorf("%s: %v, %d, want %v, %d", f.name, results, e, want, e2)
		}
	}
	if u.Messages[:5][4].Id != -1 || u.Fees[:3][2] != -1 || u.Shares[0][:4][3] != -1 || u.Shares[:3][2] != nil || u.Guests[:3][2].Id != -1 || u.Rights[:2][1].In != -1 || u.Works[:2][1].Hut != -1 || a.shares[:4][3] != -1 || a.balances[:5][4] != -1 {
		t.Errorf("something behind the end of a slice is changed: %+v", a)
	}
	none := goodArguments()
	none.u.Messages, none.u.Guests, none.u.Rights, none.u.Works, none.balances, none.need = nil, nil, nil, nil, nil, 0
	empty := goodArguments()
	empty.u.Messages, empty.u.Guests, empty.u.Rights, empty.u.Works, empty.balances, empty.need = []api.Message{}, []api.Payer{}, []api.Right{}, []api.Work{}, []int{}, 0
	for _, f := range calls {
		want, e := f.call(none)
		if results, e2 := f.call(empty); !reflect.DeepEqual(results, want) || e2 != e {
			t.Errorf("%s of empty slices: %v, %d, want %v, %d", f.name, results, e2, want, e)
		}
	}
}

// TestP1_any: no function panics, and each terminates, for wild arguments; a union that is
// not valid is told from one that is.
func TestP1_any(t *testing.T) {
	r := rand.New(rand.NewSource(1))
	values := []int{math.MinInt, -1000000001, -51, -2, -1, 0, 0, 0, 1, 1, 2, 3, 5, 6, 7, 12, 20, 40, 50, 67, 99, 100, 101, 100000, 100001, 1000000000, 1000000001, math.MaxInt}
	number := func() int { return values[r.Intn(len(values))] }
	counts := map[api.Errno]int{}
	for range 10000 {
		a := goodArguments()
		u := &a.u
		for range r.Intn(4) {
			m, g := &u.Messages[r.Intn(4)], &u.Guests[r.Intn(2)]
			field := []*int{
				&u.Chain.Huts[r.Intn(2)].Beds, &u.Chain.Nights, &m.Id, &m.Kind, &m.People, &m.Stays[0].Hut, &m.Stays[0].Nights.High,
				&u.Clubs, &u.Fees[r.Intn(2)], &u.Shares[r.Intn(2)][r.Intn(3)], &g.Id, &g.Club, &g.Children, &u.Rights[0].Club, &u.Rights[0].In, &u.Works[0].Club, &u.Works[0].Hut, &u.Works[0].Nights, &u.Member, &u.Child, &u.Tax, &u.Credit,
				&a.id, &a.amount, &a.shares[r.Intn(3)], &a.balances[r.Intn(4)], &a.hut, &a.need,
			}
			*field[r.Intn(len(field))] = number()
		}
		e := clubs.Check(a.u)
		counts[e]++
		for _, f := range calls {
			results, e2 := f.call(a)
			if e != api.OK && hasStep(f.uses, "union") && e2 != e || e2 != api.OK && !isZero(results) {
				t.Errorf("%s of %+v: %v, %d, but Check: %d", f.name, a, results, e2, e)
			}
		}
	}
	if min(counts[api.OK], counts[api.ErrUnion], counts[api.ErrMessages], counts[api.ErrChain]) < 100 {
		t.Errorf("just so many cases of each kind: %v", counts)
	}
}

// fullUnion is a union with as much as there may be of everything, in which all beds are
// booked by people of no club.
func fullUnion() api.Union {
	u := api.Union{
		Chain: api.Chain{Huts: slices.Repeat([]api.Hut{{Beds: api.MaxBeds, Emergency: api.MaxBeds}}, api.MaxHuts), Nights: api.MaxNights},
		Clubs: api.MaxClubs, Fees: slices.Repeat([]int{api.MaxFee}, api.MaxHuts), Shares: slices.Repeat([][]int{{0, 0, 0, 0, 1, 99}}, api.MaxHuts),
		Rights: slices.Repeat([]api.Right{right(5, 5)}, api.MaxRights), Works: slices.Repeat([]api.Work{work(0, 5, api.MaxNights)}, api.MaxWorks),
		Member: 100, Child: 100, Tax: api.MaxFee, Credit: api.MaxFee,
	}
	for i := range api.MaxMessages {
		u.Messages = append(u.Messages, request(i, api.MaxStamp, api.MaxBeds, stay(i%api.MaxHuts, 0, api.MaxNights-1)))
		u.Guests = append(u.Guests, payer(i, -1, 0))
	}
	return u
}

// TestP1_full: a union of the greatest size.
func TestP1_full(t *testing.T) {
	u := fullUnion()
	const most = api.MaxBeds * api.MaxNights * api.MaxFee
	credits := api.MaxWorks * api.MaxNights * api.MaxFee
	want := []int{credits, 0, 0, 0, (6*most - credits) / 100, 99 * (6*most - credits) / 100, 6 * most, -12 * most}
	balances, e := clubs.Accounts(u)
	if !slices.Equal(balances, want) || e != api.OK {
		t.Errorf("Accounts = %v, %d, want %v", balances, e, want)
	}
	checkSettle(t, balances, 4)
	checkPrice(t, "full", u, 5, most, most)
	checkPrice(t, "full", u, 6, -1, 0)
	for need, want := range map[int]int{most: api.MaxFee, most - 400: api.MaxFee - 1, 1: 1, 401: 2} {
		if fee, e := clubs.Raise(u, 3, need); fee != want || e != api.OK {
			t.Errorf("Raise to %d = %d, %d, want %d", need, fee, e, want)
		}
	}
	if _, e := clubs.Raise(u, 3, most+1); e != api.ErrNone {
		t.Errorf("Raise to more than all: %d", e)
	}
}
