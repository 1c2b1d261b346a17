package clubs

import (
	"slices"

	"bivouac/api"
)

// begin checks a union.
func begin(u api.Union) (checked, api.Errno) {
	if e := Check(u); e != api.OK {
		return checked{}, e
	}
	return newChecked(u), api.OK
}

// isUnion checks a union whose chain and messages are valid.
func isUnion(u api.Union) bool {
	return isWithin(u.Clubs, 1, api.MaxClubs) && areHuts(u) && areGuests(u) && areRights(u) && areWorks(u) &&
		isPercent(u.Member) && isPercent(u.Child) && isFee(u.Tax) && isFee(u.Credit)
}

// areHuts checks what a union tells of each hut of the chain.
func areHuts(u api.Union) bool {
	huts := len(u.Chain.Huts)
	isRow := func(row []int) bool { return len(row) == u.Clubs && areShares(row) }
	return len(u.Fees) == huts && all(u.Fees, isFee) && len(u.Shares) == huts && all(u.Shares, isRow)
}

func areGuests(u api.Union) bool {
	known := map[int]bool{}
	isGuest := func(p api.Payer) bool {
		isNew := !known[p.Id]
		known[p.Id] = true
		isMember := p.Club == noClub || isClub(u, p.Club)
		return isNew && isWithin(p.Id, 0, api.MaxBooking) && isMember && isWithin(p.Children, 0, api.MaxBeds)
	}
	return len(u.Guests) <= api.MaxPayers && all(u.Guests, isGuest)
}

func areRights(u api.Union) bool {
	isRight := func(r api.Right) bool { return isClub(u, r.Club) && isClub(u, r.In) }
	return len(u.Rights) <= api.MaxRights && all(u.Rights, isRight)
}

func areWorks(u api.Union) bool {
	isWork := func(w api.Work) bool {
		return isClub(u, w.Club) && isHut(u, w.Hut) && isWithin(w.Nights, 0, api.MaxNights)
	}
	return len(u.Works) <= api.MaxWorks && all(u.Works, isWork)
}

// areShares reports whether percentages are a whole together.
func areShares(shares []int) bool { return all(shares, isPercent) && sum(shares) == 100 }

func areBalances(balances []int) bool {
	isBalance := func(x int) bool { return isWithin(x, -api.MaxAmount, api.MaxAmount) }
	return len(balances) <= api.MaxAccounts && all(balances, isBalance) && sum(balances) == 0
}

// all reports whether each element of a slice is valid.
func all[T any](list []T, isValid func(x T) bool) bool {
	return !slices.ContainsFunc(list, func(x T) bool { return !isValid(x) })
}

func isClub(u api.Union, club int) bool { return isWithin(club, 0, u.Clubs-1) }

func isHut(u api.Union, hut int) bool { return isWithin(hut, 0, len(u.Chain.Huts)-1) }

func isPercent(x int) bool { return isWithin(x, 0, 100) }

func isFee(x int) bool { return isWithin(x, 0, api.MaxFee) }

func isWithin(x, low, high int) bool { return low <= x && x <= high }

func sum(numbers []int) int {
	total := 0
	for _, x := range numbers {
		total += x
	}
	return total
}
