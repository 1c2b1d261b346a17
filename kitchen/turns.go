package kitchen

// portion is a dish for a group, and what it needs if as many come as can.
type portion struct {
	dish  int
	needs goods
}

// turn is a group on a day, and the portions that it can have: of those that need
// the same just the one with the lowest dish.
type turn struct {
	day, group int
	portions   []portion
}

// turns returns the turns of all groups, in the order of the menus.
func (k kitchen) turns() []turn {
	var turns []turn
	for day, groups := range k.Days {
		for group, diners := range groups {
			t := turn{day: day, group: group}
			for _, dish := range k.suiting(diners.Not) {
				t.add(portion{dish: dish, needs: k.helping(dish, k.high(day, group))})
			}
			turns = append(turns, t)
		}
	}
	return turns
}

// only returns turns in which no good is needed but one.
func only(turns []turn, good int) []turn {
	var others []turn
	for _, t := range turns {
		other := turn{day: t.day, group: t.group}
		for _, x := range t.portions {
			var needs goods
			needs[good] = x.needs[good]
			other.add(portion{dish: x.dish, needs: needs})
		}
		others = append(others, other)
	}
	return others
}

// add adds a portion unless one needs the same.
func (t *turn) add(x portion) {
	for _, other := range t.portions {
		if other.needs == x.needs {
			return
		}
	}
	t.portions = append(t.portions, x)
}
