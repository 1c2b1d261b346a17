package kitchen

import "bivouac/api"

// bundles is an amount for each set of goods: that of all its goods together. Who
// eats of one good eats less of another one, so that bundles tell more than each
// good alone.
type bundles [1 << api.MaxGoods]int

func (g goods) bundles() bundles {
	var b bundles
	for good, amount := range g {
		for set := range 1 << good {
			b[set|1<<good] = b[set] + amount
		}
	}
	return b
}

// demand is the least and the most that some turns need on each day.
type demand struct {
	least, most [api.MaxDays]bundles
}

// with returns a demand with that of one more turn.
func (d demand) with(t turn) demand {
	least, most := t.bounds()
	for set := range least {
		d.least[t.day][set] += least[set]
		d.most[t.day][set] += most[set]
	}
	return d
}

// bounds returns the least and the most that any portion of a turn needs. The
// least is more than there can be if no dish suits.
func (t turn) bounds() (least, most bundles) {
	for set := range least {
		least[set] = none
	}
	for _, x := range t.portions {
		for set, amount := range x.needs.bundles() {
			least[set], most[set] = min(least[set], amount), max(most[set], amount)
		}
	}
	return least, most
}

// outlook is what is left, by the last day on which it is used, and what is
// needed of it, from a day to the last one.
type outlook struct {
	*demand
	stocks   [api.MaxDays]bundles
	day, end int
}

// bound returns a waste from a state on that no menus undercut.
func (p planner) bound(s state) int {
	o := outlook{demand: &p.demands[s.turn], day: p.dayOf(s.turn), end: p.last()}
	var left [api.MaxDays]goods
	for batch, b := range p.Batches {
		left[min(b.Last, o.end)][b.Good] += s.left[batch]
	}
	for day := o.day; day <= o.end; day++ {
		o.stocks[day] = left[day].bundles()
	}
	waste := 0
	for set := range 1 << len(p.Allergens) {
		if o.runsOut(set) {
			return none
		}
		waste = max(waste, o.surplus(set))
	}
	return waste
}

// runsOut reports whether from some day on there is less of a set of goods than is
// needed at least.
func (o *outlook) runsOut(set int) bool {
	spare := 0
	for day := o.end; day >= o.day; day-- {
		spare += o.stocks[day][set] - o.least[day][set]
		if spare < 0 {
			return true
		}
	}
	return false
}

// surplus returns how much of a set of goods surely is thrown away, as up to some
// day there is more than can be used.
func (o *outlook) surplus(set int) int {
	surplus, most := 0, 0
	for day := o.day; day < o.end; day++ {
		surplus += o.stocks[day][set] - o.most[day][set]
		most = max(most, surplus)
	}
	return most
}

// boundAlone returns a waste that no menus undercut, too: what is wasted of each
// good by the best menus for this good alone. This counts what is left over because
// there are only some sizes of portions, which bundles do not see. No more than a
// limit needs to be found.
func (p planner) boundAlone(s state, limit int) int {
	waste := 0
	for good, q := range p.alone {
		waste += q.explore(p.only(s, good), limit-waste).waste
	}
	return min(waste, none)
}

// only returns a state in which nothing is left of any good but one.
func (p planner) only(s state, good int) state {
	for batch, b := range p.Batches {
		if b.Good != good {
			s.left[batch] = 0
		}
	}
	return s
}
