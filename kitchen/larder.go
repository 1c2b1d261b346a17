package kitchen

// larder is what is left of each batch of a kitchen.
type larder struct {
	kitchen
	left []int
}

// newLarder returns a larder from which nothing has been taken.
func newLarder(k kitchen) larder {
	l := larder{kitchen: k, left: make([]int, len(k.Batches))}
	for batch, b := range k.Batches {
		l.left[batch] = b.Amount
	}
	return l
}

// cook cooks menus day by day, until a good runs out. It returns how much was
// thrown away, and how many days were cooked.
func (l larder) cook(menus [][]int, count counter) (waste, days int) {
	for day, dishes := range menus {
		waste += l.throwAway(day)
		if !l.take(l.needs(day, dishes, count)) {
			return waste, day
		}
	}
	return waste, len(menus)
}

// throwAway throws away what may not be used any more on a day, and returns how
// much that is.
func (l larder) throwAway(day int) int {
	waste := 0
	for batch, b := range l.Batches {
		if b.Last < day {
			waste += l.left[batch]
			l.left[batch] = 0
		}
	}
	return waste
}

// take takes what is needed from the batches, unless there is too little of some
// good: then it takes nothing.
func (l larder) take(needs goods) bool {
	if !l.has(needs) {
		return false
	}
	for _, batch := range l.queue {
		good := l.Batches[batch].Good
		taken := min(l.left[batch], needs[good])
		l.left[batch] -= taken
		needs[good] -= taken
	}
	return true
}

// has reports whether there is as much of each good as is needed.
func (l larder) has(needs goods) bool {
	for batch, b := range l.Batches {
		needs[b.Good] -= l.left[batch]
	}
	for _, lacking := range needs {
		if lacking > 0 {
			return false
		}
	}
	return true
}
