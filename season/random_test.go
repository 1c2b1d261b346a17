package season_test

import (
	"math/rand"
	"slices"
	"strconv"
	"strings"
	"testing"

	"bivouac/api"
)

// pickSeason returns a small season that is valid.
func pickSeason(r *rand.Rand) api.Season {
	x := api.Season{
		Net:   api.Net{Places: 2 + r.Intn(4)},
		Chain: api.Chain{Nights: 1 + r.Intn(6)},
		Water: api.Water{Most: r.Intn(3), Misses: r.Intn(2), Alarms: r.Intn(2)},
		Model: api.Model{Shelf: 1 + r.Intn(5), Use: 1 + r.Intn(5), Bears: r.Intn(8)},
	}
	for range r.Intn(9) {
		from, time := r.Intn(x.Net.Places), 1+r.Intn(200)
		to := (from + 1 + r.Intn(x.Net.Places-1)) % x.Net.Places
		x.Net.Paths = append(x.Net.Paths, api.Path{From: from, To: to, Grade: 1 + r.Intn(4), Time: span(time, time+r.Intn(100))})
	}
	for range 1 + r.Intn(3) {
		x.Chain.Huts = append(x.Chain.Huts, api.Hut{Beds: r.Intn(5), Emergency: r.Intn(3)})
	}
	for range 1 + r.Intn(4) {
		low := r.Intn(30)
		x.Water.Springs = append(x.Water.Springs, api.Spring{Yield: span(low, low+r.Intn(20)), Fuel: r.Intn(10)})
	}
	for i := range r.Intn(4) {
		x.Model.Wears = append(x.Model.Wears, api.Wear{Factor: 40*i + 1 + r.Intn(40), Damage: 2*i + r.Intn(3)})
	}
	return x
}

// shapes are forms of lines, with a letter for each number; those that are there more
// than once are picked more often.
var shapes = strings.Split(`day d,book i s p h n N,book i s p h n N,book i s p h n N,book i s p h n N,cancel i,accepted,waiting,beds h n,letin h p,
sample x f,sample x f,sample x f,clean,serve l,rope L,rope L,use r,use r,use r,fall r a A o,fall r a A o,fall r a A o,fit r,fit r,
go i w g t R,go i w g t R,seen i T w,seen i T w,unseen i T w,back i,where i T,where i T,where i T,undo,undo,undo,redo,redo`, ",")

// pickLine returns a line that often, but not always, is of one of the forms, with
// numbers that often are as described.
func pickLine(r *rand.Rand, x api.Season) string {
	words := strings.Fields(shapes[r.Intn(len(shapes))])
	last := 0
	for i, letter := range words[1:] {
		last = pickNumber(r, x, letter, last)
		if r.Intn(40) == 0 {
			last = []int{-99999, -1, 0, 1, 6, 7, 20, 21, 64, 100, 101, 601, 1001, 2881, 9999, 10000, 10001, 99999}[r.Intn(18)]
		}
		words[i+1] = strconv.Itoa(last)
	}
	line := strings.Join(words, " ")
	if r.Intn(30) == 0 {
		return []string{"", " ", line + " ", " " + line, line + " 0", strings.ToUpper(line), strings.Replace(line, " ", "  ", 1), strings.Replace(line, " ", " 0", 1), line + "\n", line + "\x00"}[r.Intn(10)]
	}
	return line
}

// pickNumber returns a number for a letter of a shape. The number before it is the last
// one.
func pickNumber(r *rand.Rand, x api.Season, letter string, last int) int {
	switch letter {
	case "d":
		return min(r.Intn(x.Chain.Nights), r.Intn(x.Chain.Nights))
	case "i":
		return r.Intn(6)
	case "s":
		return r.Intn(3)
	case "p", "L", "g":
		return 1 + r.Intn(4)
	case "h":
		return r.Intn(len(x.Chain.Huts))
	case "n":
		return r.Intn(x.Chain.Nights)
	case "N":
		return min(last+r.Intn(2), x.Chain.Nights-1)
	case "x":
		return 1 + r.Intn(1<<len(x.Water.Springs)-1)
	case "f":
		return r.Intn(4) / 3
	case "l":
		return r.Intn(60)
	case "r":
		return r.Intn(3)
	case "a":
		return 1 + r.Intn(40)
	case "A":
		return last + r.Intn(40)
	case "o":
		return 20 + r.Intn(40)
	case "w":
		return r.Intn(x.Net.Places)
	case "t":
		return r.Intn(50)
	case "R":
		return r.Intn(100)
	}
	return 50 + r.Intn(500) // T
}

// pickScript returns a script of at most so many lines. Often its first lines are in
// order, so that the later ones have something to be about.
func pickScript(r *rand.Rand, x api.Season, most int) []string {
	var script []string
	if r.Intn(2) == 0 {
		script = []string{"rope 50", "use 0", "go 0 0 3 10 60", "book 0 1 1 0 0 0"}
	}
	for range r.Intn(most - len(script) + 1) {
		script = append(script, pickLine(r, x))
	}
	return script
}

// withoutUndo returns the lines of a script but undo and redo.
func withoutUndo(script []string) []string {
	return slices.DeleteFunc(slices.Clone(script), func(line string) bool { return line == "undo" || line == "redo" })
}

// eachScript calls check for random seasons and scripts.
func eachScript(t *testing.T, seed int64, cases, most int, check func(r *rand.Rand, x api.Season, script []string)) {
	t.Helper()
	r := rand.New(rand.NewSource(seed))
	for i := range cases {
		x := pickSeason(r)
		script := pickScript(r, x, most)
		check(r, x, script)
		if t.Failed() {
			t.Fatalf("case %d: %+v, %q", i, x, script)
		}
	}
}
