package kitchen

import "bivouac/api"

// none is more than all batches together: it is the waste where no menus suffice.
const none = api.MaxBatches*api.MaxGrams + 1

// state is what is left of each batch when it is the turn of a group, without
// what surely is thrown away.
type state struct {
	turn int
	left [api.MaxBatches]int
}

// course is what is known of the turns from a state on: that no menus waste less,
// whether it is sure that some waste just this, and then the portion with which
// the first of these begin.
type course struct {
	waste   int
	sure    bool
	portion int
}

// planner looks for menus that suffice with the least waste, one turn after the
// other.
type planner struct {
	kitchen
	turns   []turn
	demands []demand // of the turns from each one on
	known   map[state]course
	alone   []planner // for each good, as if there were no other one
}

func newPlanner(k kitchen) planner {
	turns := k.turns()
	p := plannerOf(k, turns)
	for good := range k.Allergens {
		p.alone = append(p.alone, plannerOf(k, only(turns, good)))
	}
	return p
}

func plannerOf(k kitchen, turns []turn) planner {
	demands := make([]demand, len(turns)+1)
	for i := len(turns) - 1; i >= 0; i-- {
		demands[i] = demands[i+1].with(turns[i])
	}
	return planner{kitchen: k, turns: turns, demands: demands, known: map[state]course{}}
}

// plan returns the menus with the least waste, of several the first ones, and this
// waste, if any menus suffice.
func (p planner) plan() (menus [][]int, waste int, ok bool) {
	var first state
	copy(first.left[:], newLarder(p.kitchen).left)
	waste = p.settle(&first)
	c := p.explore(first, 1)
	for !c.sure {
		// Little waste is looked for first, as then many states can be left out.
		c = p.explore(first, 2*c.waste+1)
	}
	if c.waste == none {
		return nil, 0, false
	}
	return p.menus(first, c.waste), waste + c.waste, true
}

// menus returns the first menus with the least waste from a state on, if it is
// sure that this is some waste. No other waste has to be asked for again.
func (p planner) menus(s state, waste int) [][]int {
	menus := make([][]int, len(p.Days))
	for s.turn < len(p.turns) {
		t := p.turns[s.turn]
		x := t.portions[p.explore(s, waste+1).portion]
		menus[t.day] = append(menus[t.day], x.dish)
		next, thrown, _ := p.after(s, x)
		s, waste = next, waste-thrown
	}
	return menus
}

// explore learns the course from a state until it is sure, or it is known that no
// menus waste less than a limit. What follows a portion is just asked for as far
// as it can be better than with the best portion so far.
func (p planner) explore(s state, limit int) course {
	if limit <= 0 {
		return course{} // no waste is less
	}
	c := p.course(s, limit)
	if c.sure || c.waste >= limit {
		return c
	}
	best := course{waste: none}
	for i, x := range p.turns[s.turn].portions {
		if best.sure && best.waste == c.waste {
			break
		}
		next, thrown, ok := p.after(s, x)
		if !ok {
			continue
		}
		rest := p.explore(next, min(limit, best.waste)-thrown)
		if waste := thrown + rest.waste; waste < best.waste {
			best = course{waste: waste, sure: rest.sure, portion: i}
		}
	}
	best.sure = best.sure || best.waste == none
	if p.isKept(s) {
		p.known[s] = best
	}
	return best
}

// course returns what is known of a state. At first this is a waste that no menus
// undercut; one that is not below the limit need not be told better.
func (p planner) course(s state, limit int) course {
	if s.turn == len(p.turns) {
		return course{sure: true}
	}
	if p.isKept(s) {
		if c, ok := p.known[s]; ok {
			return c
		}
	}
	waste := p.bound(s)
	if waste < limit {
		waste = max(waste, p.boundAlone(s, limit))
	}
	return course{waste: waste, sure: waste == none}
}

// isKept reports whether the course from a state is kept. Those from states within
// a day would take much memory, and those of the last day are soon found again;
// but of a good alone there are few.
func (p planner) isKept(s state) bool {
	t := p.turns[s.turn]
	return p.alone == nil || t.group == 0 && t.day < p.last()
}

// after returns the state after a portion, and how much is thrown away with it,
// unless a good runs out.
func (p planner) after(s state, x portion) (next state, waste int, ok bool) {
	l := larder{kitchen: p.kitchen, left: s.left[:]}
	if !l.take(x.needs) {
		return state{}, 0, false
	}
	s.turn++
	waste = p.settle(&s)
	return s, waste, true
}

// settle takes out of a state what cannot be used, whatever is cooked, and returns
// how much of that is thrown away, now or later. So states are equal if they
// differ just in this.
func (p planner) settle(s *state) int {
	waste := 0
	var kept goods
	for _, batch := range p.queue {
		b := p.Batches[batch]
		extra := max(0, s.left[batch]+kept[b.Good]-p.usable(s.turn, b))
		s.left[batch] -= extra
		kept[b.Good] += s.left[batch]
		if b.Last < p.last() {
			waste += extra
		}
	}
	return waste
}

// usable returns how much of the good of a batch can be used from a turn on, up to
// the last day of the batch.
func (p planner) usable(turn int, b api.Batch) int {
	sum := 0
	for day := p.dayOf(turn); day <= min(b.Last, p.last()); day++ {
		sum += p.demands[turn].most[day][1<<b.Good]
	}
	return sum
}

// dayOf returns the day of a turn; after all turns it is the last day.
func (p planner) dayOf(turn int) int {
	if turn == len(p.turns) {
		return p.last()
	}
	return p.turns[turn].day
}
