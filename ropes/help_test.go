package ropes_test

import (
	"math/rand"
	"slices"
	"testing"

	"bivouac/api"
	"bivouac/ropes"
)

func span(low, high int) api.Span { return api.Span{Low: low, High: high} }

func exact(x int) api.Span { return span(x, x) }

func wear(factor, damage int) api.Wear { return api.Wear{Factor: factor, Damage: damage} }

func fall(day int, height, out api.Span) api.Fall {
	return api.Fall{Day: day, Height: height, Out: out}
}

func post(at, low, high int) api.Post { return api.Post{At: at, Sink: span(low, high)} }

// exampleM, exampleR, exampleO and exampleP are M, R, O and P of the chapter.
func exampleM() api.Model {
	return api.Model{Shelf: 3650, Use: 1825, Bears: 10, Wears: []api.Wear{wear(30, 1), wear(100, 4), wear(170, 10)}}
}

func exampleR() api.Rope {
	return api.Rope{Made: 0, First: 100, Length: 50, Falls: []api.Fall{
		fall(200, span(20, 30), span(100, 100)), fall(300, span(40, 60), span(40, 50)),
	}}
}

func exampleO() api.Outing {
	return api.Outing{
		Day: 400, Grade: 3, Spacing: 10,
		Guides:  []api.Guide{{Grade: 4, Until: 500, Points: 6}, {Grade: 3, Until: 399, Points: 9}, {Grade: 3, Until: 400, Points: 4}},
		Clients: []int{3, 2, 4}, Model: exampleM(),
		Ropes: []api.Rope{exampleR(), {Made: 300, First: -1, Length: 20}},
	}
}

func exampleP() []api.Post { return []api.Post{post(0, 0, 2), post(4000, 1, 3), post(6000, 5, 9)} }

// exampleA are the points of the anchor of the chapter.
func exampleA() []api.Span { return []api.Span{span(10, 12), span(6, 8), span(4, 9)} }

func withBears(m api.Model, bears int) api.Model {
	m.Bears = bears
	return m
}

func withWears(m api.Model, wears ...api.Wear) api.Model {
	m.Wears = wears
	return m
}

func withFalls(r api.Rope, falls ...api.Fall) api.Rope {
	r.Falls = falls
	return r
}

// withFall returns a rope with one more fall, put where its day belongs.
func withFall(r api.Rope, f api.Fall) api.Rope {
	at := slices.IndexFunc(r.Falls, func(other api.Fall) bool { return other.Day > f.Day })
	if at < 0 {
		at = len(r.Falls)
	}
	r.Falls = slices.Insert(slices.Clone(r.Falls), at, f)
	return r
}

// guided is an outing of grade 1 on day 0, with a Spacing of 1: guides with so many
// points, clients with so many, and new ropes with some lengths.
func guided(points, clients []int, lengths ...int) api.Outing {
	o := api.Outing{Grade: 1, Spacing: 1, Model: api.Model{Shelf: 1, Use: 1}, Clients: clients}
	for _, p := range points {
		o.Guides = append(o.Guides, api.Guide{Grade: 1, Points: p})
	}
	for _, length := range lengths {
		o.Ropes = append(o.Ropes, api.Rope{First: -1, Length: length})
	}
	return o
}

// What follows are the definitions of the chapter, by hand.

// factorOf is the factor of a fall, rounded up by trying all factors.
func factorOf(height, out int) int {
	for factor := range api.MaxFactor {
		if factor*out >= 100*height {
			return factor
		}
	}
	return api.MaxFactor
}

func damageOf(m api.Model, factor int) int {
	for _, w := range slices.Backward(m.Wears) {
		if w.Factor <= factor {
			return w.Damage
		}
	}
	return 0
}

// eachSize calls visit for all heights and lengths out of a fall.
func eachSize(f api.Fall, visit func(height, out int)) {
	for height := f.Height.Low; height <= f.Height.High; height++ {
		for out := f.Out.Low; out <= f.Out.High; out++ {
			visit(height, out)
		}
	}
}

// damageBy is the least and the greatest damage on a day, with all heights and all
// lengths out.
func damageBy(m api.Model, r api.Rope, day int) api.Span {
	var sum api.Span
	for _, f := range r.Falls {
		if f.Day > day {
			continue
		}
		least, greatest := api.MaxDamage+1, -1
		eachSize(f, func(height, out int) {
			damage := damageOf(m, factorOf(height, out))
			least, greatest = min(least, damage), max(greatest, damage)
		})
		sum.Low += least
		sum.High += greatest
	}
	return sum
}

// isNotTooOld is what fitness asks for beside the damage.
func isNotTooOld(m api.Model, r api.Rope, day int) bool {
	return day >= r.Made && day <= r.Made+m.Shelf && (r.First == -1 || r.First > day || day <= r.First+m.Use)
}

func isFit(m api.Model, r api.Rope, day, damage int) bool {
	return isNotTooOld(m, r, day) && damage <= m.Bears
}

// lastDay is the last of the days Made, First and those of the falls.
func lastDay(r api.Rope) int {
	day := max(r.Made, r.First)
	for _, f := range r.Falls {
		day = max(day, f.Day)
	}
	return day
}

// stands is what holds is: the weakest points break, until none does.
func stands(strengths []int, load int) bool {
	left := slices.Sorted(slices.Values(strengths))
	for len(left) > 0 && left[0]*len(left) < load {
		count := len(left)
		for len(left) > 0 && left[0]*count < load {
			left = left[1:]
		}
	}
	return len(left) > 0
}

func lows(points []api.Span) []int {
	var l []int
	for _, p := range points {
		l = append(l, p.Low)
	}
	return l
}

func highs(points []api.Span) []int {
	var l []int
	for _, p := range points {
		l = append(l, p.High)
	}
	return l
}

// choices returns all slices of so many of the first n numbers, in strictly ascending
// order; a slice with a lower number at the first position at which they differ comes
// first.
func choices(n, count int) [][]int {
	var all [][]int
	var add func(l []int, from int)
	add = func(l []int, from int) {
		if len(l) == count {
			all = append(all, slices.Clone(l))
			return
		}
		for i := from; i < n; i++ {
			add(append(l, i), i+1)
		}
	}
	add(nil, 0)
	return all
}

// only returns the elements with some numbers.
func only[T any](elements []T, numbers []int) []T {
	var l []T
	for _, i := range numbers {
		l = append(l, elements[i])
	}
	return l
}

// except returns the elements without those with some numbers.
func except[T any](elements []T, numbers []int) []T {
	var l []T
	for i, x := range elements {
		if !slices.Contains(numbers, i) {
			l = append(l, x)
		}
	}
	return l
}

// canMiss reports whether the points hold the load whichever so many of them are
// missing.
func canMiss(points []api.Span, load, count int) bool {
	return !slices.ContainsFunc(choices(len(points), count), func(missing []int) bool {
		return !stands(lows(except(points, missing)), load)
	})
}

// spareBy is the greatest number of points that can be missing, trying all numbers.
func spareBy(points []api.Span, load int) int {
	spare := -1
	for count := range len(points) + 1 {
		if canMiss(points, load, count) {
			spare = count
		}
	}
	return spare
}

// firstChoice returns the first of the fewest of n numbers that are enough.
func firstChoice(n int, isEnough func(numbers []int) bool) ([]int, bool) {
	for count := range n + 1 {
		for _, numbers := range choices(n, count) {
			if isEnough(numbers) {
				return numbers, true
			}
		}
	}
	return nil, false
}

// isLevel reports whether no two posts can tilt by more than a limit, with all sinkings
// of whole millimetres. Between them nothing sinks by more.
func isLevel(posts []api.Post, limit, years int) bool {
	for i, a := range posts {
		for _, b := range posts[:i] {
			for x := a.Sink.Low; x <= a.Sink.High; x++ {
				for y := b.Sink.Low; y <= b.Sink.High; y++ {
					if tilts(a, b, x, y, limit, years) {
						return false
					}
				}
			}
		}
	}
	return true
}

// tilts reports whether two posts that sink by x and y each year tilt by more than a
// limit.
func tilts(a, b api.Post, x, y, limit, years int) bool {
	sunk, distance := (x-y)*years*1000, a.At-b.At
	return max(sunk, -sunk) > limit*max(distance, -distance)
}

// broken tells which rule of an outing teams do not keep; it is empty if they keep all.
func broken(o api.Outing, guides, tied []int) string {
	if len(guides) != len(o.Clients) || len(tied) != len(o.Guides) {
		return "there is a guide for each client, and a rope or -1 for each guide"
	}
	count, points, uses := make([]int, len(o.Guides)), make([]int, len(o.Guides)), make([]int, len(o.Ropes))
	for i, guide := range guides {
		if guide < 0 || guide >= len(o.Guides) {
			return "each client has a guide"
		}
		count[guide]++
		points[guide] += o.Clients[i]
	}
	for i, g := range o.Guides {
		if count[i] == 0 {
			if tied[i] != -1 {
				return "a guide without clients has no rope"
			}
			continue
		}
		if g.Grade < o.Grade || g.Until < o.Day || g.Points < points[i] {
			return "each guide with clients has the licence"
		}
		if tied[i] < 0 || tied[i] >= len(o.Ropes) {
			return "each guide with clients has a rope"
		}
		r := o.Ropes[tied[i]]
		uses[tied[i]]++
		if uses[tied[i]] > 1 || r.Length < o.Spacing*count[i] || !isFit(o.Model, r, o.Day, damageBy(o.Model, r, o.Day).High) {
			return "each guide with clients has a rope of its own that surely is fit, and long enough"
		}
	}
	return ""
}

// fewestGuides tries all guides of the clients and all ropes of the guides; it is -1
// if there are no teams.
func fewestGuides(o api.Outing) int {
	least := -1
	guides, tied := make([]int, len(o.Clients)), make([]int, len(o.Guides))
	fit := make([]bool, len(o.Ropes))
	for i, r := range o.Ropes {
		fit[i] = isFit(o.Model, r, o.Day, damageBy(o.Model, r, o.Day).High)
	}
	var tie func(guide int)
	tie = func(guide int) {
		if guide == len(o.Guides) {
			count := len(tied) - count(tied, -1)
			if (least < 0 || count < least) && broken(o, guides, tied) == "" {
				least = count
			}
			return
		}
		for rope := -1; rope < len(o.Ropes); rope++ {
			if (rope == -1) == slices.Contains(guides, guide) || rope >= 0 && (!fit[rope] || slices.Contains(tied[:guide], rope)) {
				continue
			}
			tied[guide] = rope
			tie(guide + 1)
		}
	}
	var lead func(client int)
	lead = func(client int) {
		if client == len(o.Clients) {
			tie(0)
			return
		}
		for guide := range o.Guides {
			guides[client] = guide
			lead(client + 1)
		}
	}
	lead(0)
	return least
}

func count(l []int, x int) int {
	n := 0
	for _, y := range l {
		if y == x {
			n++
		}
	}
	return n
}

// What follows are random arguments, all of which are valid.

func between(r *rand.Rand, low, high int) int { return low + r.Intn(high-low+1) }

func randomSpan(r *rand.Rand, low, high int) api.Span {
	a, b := between(r, low, high), between(r, low, high)
	return span(min(a, b), max(a, b))
}

func randomModel(r *rand.Rand) api.Model {
	m := api.Model{Shelf: between(r, 1, 60), Use: between(r, 1, 40), Bears: between(r, 0, 12)}
	factor, damage := 0, 0
	for range r.Intn(api.MaxWears + 1) {
		factor += between(r, 1, 33)
		damage += r.Intn(4)
		m.Wears = append(m.Wears, wear(factor, damage))
	}
	return m
}

// randomRope returns a rope that was made up to some day.
func randomRope(r *rand.Rand, made int) api.Rope {
	x := api.Rope{Made: between(r, 0, made), First: -1, Length: between(r, 1, 40)}
	if r.Intn(4) == 0 {
		return x
	}
	x.First = x.Made + r.Intn(30)
	day := x.First
	for range r.Intn(5) {
		day += r.Intn(12)
		x.Falls = append(x.Falls, randomFall(r, day))
	}
	return x
}

func randomFall(r *rand.Rand, day int) api.Fall {
	height, out := between(r, 1, 60), between(r, 1, 40)
	return fall(day, span(height, height+r.Intn(6)), span(out, out+r.Intn(6)))
}

// randomPoints returns points of about so much strength.
func randomPoints(r *rand.Rand, most, strength int) []api.Span {
	var points []api.Span
	for range r.Intn(most + 1) {
		points = append(points, randomSpan(r, 0, strength))
	}
	return points
}

func randomOuting(r *rand.Rand, guides, clients, rope int) api.Outing {
	o := api.Outing{Day: between(r, 0, 60), Grade: between(r, 1, api.MaxGrade), Spacing: between(r, 1, 12), Model: randomModel(r)}
	for range r.Intn(guides + 1) {
		g := api.Guide{Grade: min(o.Grade+r.Intn(3), api.MaxGrade), Until: o.Day + r.Intn(3), Points: between(r, 4, api.MaxPoint)}
		if r.Intn(4) == 0 {
			g.Grade, g.Until = between(r, 1, api.MaxGrade), between(r, 0, 60)
		}
		o.Guides = append(o.Guides, g)
	}
	for range r.Intn(clients + 1) {
		o.Clients = append(o.Clients, between(r, 1, 9))
	}
	for range r.Intn(rope + 1) {
		o.Ropes = append(o.Ropes, randomRope(r, o.Day))
	}
	return o
}

func randomPosts(r *rand.Rand, most, sink int) []api.Post {
	var posts []api.Post
	at := r.Intn(3)
	for range r.Intn(most + 1) {
		low := r.Intn(sink + 1)
		posts = append(posts, post(at, low, min(low+r.Intn(4), sink)))
		at += between(r, 1, 3000)
	}
	return posts
}

// eachRope calls check for many random models and ropes.
func eachRope(t *testing.T, seed int64, cases int, check func(r *rand.Rand, m api.Model, x api.Rope)) {
	t.Helper()
	r := rand.New(rand.NewSource(seed))
	for i := range cases {
		m, x := randomModel(r), randomRope(r, 20)
		if i%5 == 0 { // in the last days before MaxDay
			x = later(x, api.MaxDay-lastDay(x)-r.Intn(20))
		}
		check(r, m, x)
		if t.Failed() {
			t.Fatalf("case %d: the model %+v, the rope %+v", i, m, x)
		}
	}
}

// later returns a rope all of whose days are so much later.
func later(x api.Rope, by int) api.Rope {
	x.Made += by
	if x.First >= 0 {
		x.First += by
	}
	x.Falls = slices.Clone(x.Falls)
	for i := range x.Falls {
		x.Falls[i].Day += by
	}
	return x
}

// eachAnchor calls check for many random points and loads.
func eachAnchor(t *testing.T, seed int64, cases int, check func(r *rand.Rand, points []api.Span, load int)) {
	t.Helper()
	r := rand.New(rand.NewSource(seed))
	for i := range cases {
		strength := []int{3, 12, api.MaxStrength / 4}[i%3]
		points, load := randomPoints(r, 6, strength), min(between(r, 1, 3*strength), api.MaxStrength)
		check(r, points, load)
		if t.Failed() {
			t.Fatalf("case %d: the points %v, the load %d", i, points, load)
		}
	}
}

// eachOuting calls check for many random outings.
func eachOuting(t *testing.T, seed int64, cases int, check func(r *rand.Rand, o api.Outing)) {
	t.Helper()
	r := rand.New(rand.NewSource(seed))
	for i := range cases {
		o := randomOuting(r, 3, 4, 4)
		if i%50 == 0 { // as much as may be
			o = randomOuting(r, api.MaxGuides, api.MaxClients, api.MaxRopes)
		}
		check(r, o)
		if t.Failed() {
			t.Fatalf("case %d: the outing %+v", i, o)
		}
	}
}

// eachHut calls check for many random posts and limits.
func eachHut(t *testing.T, seed int64, cases int, check func(r *rand.Rand, posts []api.Post, limit int)) {
	t.Helper()
	r := rand.New(rand.NewSource(seed))
	for i := range cases {
		posts, limit := randomPosts(r, 5, []int{3, 12}[i%2]), r.Intn([]int{2, 40, 300}[i%3])
		check(r, posts, limit)
		if t.Failed() {
			t.Fatalf("case %d: the posts %v, the limit %d", i, posts, limit)
		}
	}
}

// surely is whether a rope surely is fit on a day, as the package says.
func surely(t *testing.T, m api.Model, x api.Rope, day int) bool {
	t.Helper()
	sure, _, e := ropes.Fit(m, x, day)
	if e != api.OK {
		t.Errorf("Fit of %+v on the day %d: %d", x, day, e)
	}
	return sure
}
