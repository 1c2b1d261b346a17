package clubs

import "bivouac/api"

// debts are balances that are to be settled. The transfers between the accounts of a
// group, together 0, are one less than the accounts, as the last transfer settles two of
// them. So the best groups are as many as possible.
type debts struct {
	balances []int
	best     map[int][]int // for sets of accounts, together 0, their best groups, if known
}

func newDebts(balances []int) debts { return debts{balances, map[int][]int{}} }

// settle returns as few transfers as possible that settle all balances. An account whose
// balance is 0 is a group of its own.
func (d debts) settle() []api.Transfer {
	var transfers []api.Transfer
	for _, group := range d.groups(1<<len(d.balances) - 1) {
		transfers = append(transfers, d.transfers(group)...)
	}
	return transfers
}

// groups returns the best groups of a set of accounts, together 0. The parts that are
// tried have the lowest account, as some group must have it.
func (d debts) groups(set int) []int {
	if best, ok := d.best[set]; ok {
		return best
	}
	best := []int{set}
	rest := set & (set - 1)
	for other := rest; other > 0; other = (other - 1) & rest {
		if d.total(other) != 0 {
			continue
		}
		if groups := append([]int{set &^ other}, d.groups(other)...); len(groups) > len(best) {
			best = groups
		}
	}
	d.best[set] = best
	return best
}

// total returns what the balances of a set of accounts are together.
func (d debts) total(set int) int {
	total := 0
	for account, balance := range d.balances {
		if has(set, account) {
			total += balance
		}
	}
	return total
}

// transfers returns transfers that settle the balances of a group: each account pays, one
// after the other, those that are still to receive something.
func (d debts) transfers(group int) []api.Transfer {
	left := make([]int, len(d.balances))
	for account, balance := range d.balances {
		if has(group, account) {
			left[account] = balance
		}
	}
	var transfers []api.Transfer
	for from := range left {
		for to := range left {
			if amount := min(-left[from], left[to]); amount > 0 {
				transfers = append(transfers, api.Transfer{From: from, To: to, Amount: amount})
				left[from] += amount
				left[to] -= amount
			}
		}
	}
	return transfers
}

func has(set, account int) bool { return set>>account&1 == 1 }
