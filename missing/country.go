package missing

import (
	"iter"
	"math/bits"
	"slices"

	"bivouac/api"
	"bivouac/paths"
)

// endless stands for a way, or a cost, where there is no route. It is more than all
// costs that there can be.
const endless = 1 << 40

// country is a net that has been checked, and a party that walks in it whether paths
// are open or not.
type country struct {
	api.Net
	times []api.Span // the party's time of each path
}

func newCountry(n api.Net, p api.Party) country {
	c := country{Net: n}
	for path := range n.Paths {
		time, _ := paths.Walk(n, p, path)
		c.times = append(c.times, time)
	}
	return c
}

// canWalk reports whether the party can walk a path. Then it takes a minute or more.
func (c country) canWalk(path int) bool { return c.times[path].High > 0 }

// leading yields the paths that begin at a place and that the party can walk.
func (c country) leading(place int) iter.Seq[int] {
	return func(yield func(int) bool) {
		for i, path := range c.Paths {
			if path.From == place && c.canWalk(i) && !yield(i) {
				return
			}
		}
	}
}

// ways returns the way from each place to each place.
func (c country) ways() [][]int {
	ways := make([][]int, c.Places)
	for from := range ways {
		ways[from] = slices.Repeat([]int{endless}, c.Places)
		for path := range c.leading(from) {
			to := c.Paths[path].To
			ways[from][to] = min(ways[from][to], c.times[path].High)
		}
		ways[from][from] = 0
	}
	for over := range ways {
		for from := range ways {
			for to := range ways {
				ways[from][to] = min(ways[from][to], ways[from][over]+ways[over][to])
			}
		}
	}
	return ways
}

// members yields the elements of a set, in ascending order.
func members(set int) iter.Seq[int] {
	return func(yield func(int) bool) {
		for left := set; left != 0; left &= left - 1 {
			if !yield(bits.TrailingZeros(uint(left))) {
				return
			}
		}
	}
}
