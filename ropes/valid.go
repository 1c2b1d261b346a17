package ropes

import "bivouac/api"

// take checks a model and a rope.
func take(m api.Model, r api.Rope) (cord, api.Errno) {
	if !isModel(m) {
		return cord{}, api.ErrModel
	}
	if !isRope(r) {
		return cord{}, api.ErrRope
	}
	return cord{m, r}, api.OK
}

// takeOn checks a model, a rope, and a day on which there is the rope.
func takeOn(m api.Model, r api.Rope, day int) (cord, api.Errno) {
	c, e := take(m, r)
	if e == api.OK && !isWithin(day, r.Made, api.MaxDay) {
		return cord{}, api.ErrArg
	}
	return c, e
}

// begin checks an outing.
func begin(o api.Outing) (outing, api.Errno) {
	if !isModel(o.Model) {
		return outing{}, api.ErrModel
	}
	if !all(o.Ropes, isRope) {
		return outing{}, api.ErrRope
	}
	if !isOuting(o) {
		return outing{}, api.ErrOuting
	}
	return newOuting(o), api.OK
}

// checkAnchor checks the points of an anchor, and its load.
func checkAnchor(points []api.Span, load int) api.Errno {
	isPoint := func(s api.Span) bool { return isSpanWithin(s, 0, api.MaxStrength) }
	if len(points) > api.MaxPoints || !all(points, isPoint) {
		return api.ErrPoints
	}
	if !isWithin(load, 1, api.MaxStrength) {
		return api.ErrArg
	}
	return api.OK
}

// checkPosts checks posts, and a limit of their tilt and some years.
func checkPosts(posts []api.Post, limit, years int) api.Errno {
	isPost := func(p api.Post) bool {
		return isWithin(p.At, 0, api.MaxAt) && isSpanWithin(p.Sink, 0, api.MaxSink)
	}
	stand := func(left, right api.Post) bool { return left.At < right.At }
	if len(posts) > api.MaxPosts || !all(posts, isPost) || !inOrder(posts, stand) {
		return api.ErrPosts
	}
	if !isWithin(limit, 0, api.MaxTilt) || !isWithin(years, 0, api.MaxYears) {
		return api.ErrArg
	}
	return api.OK
}

func isModel(m api.Model) bool {
	isWear := func(w api.Wear) bool {
		return isWithin(w.Factor, 1, api.MaxFactor) && isWithin(w.Damage, 0, api.MaxDamage)
	}
	ascend := func(a, b api.Wear) bool { return a.Factor < b.Factor && a.Damage <= b.Damage }
	return isWithin(m.Shelf, 1, api.MaxShelf) && isWithin(m.Use, 1, api.MaxShelf) &&
		isWithin(m.Bears, 0, api.MaxDamage) &&
		len(m.Wears) <= api.MaxWears && all(m.Wears, isWear) && inOrder(m.Wears, ascend)
}

func isRope(r api.Rope) bool {
	isFall := func(f api.Fall) bool {
		return r.First != unused && isWithin(f.Day, r.First, api.MaxDay) &&
			isSpanWithin(f.Height, 1, api.MaxHeight) && isSpanWithin(f.Out, 1, api.MaxOut)
	}
	ascend := func(a, b api.Fall) bool { return a.Day <= b.Day }
	return isDay(r.Made) && (r.First == unused || isWithin(r.First, r.Made, api.MaxDay)) &&
		isWithin(r.Length, 1, api.MaxLength) &&
		len(r.Falls) <= api.MaxFalls && all(r.Falls, isFall) && inOrder(r.Falls, ascend)
}

// isOuting reports whether an outing is valid if its model and its ropes are.
func isOuting(o api.Outing) bool {
	isGuide := func(g api.Guide) bool {
		return isGrade(g.Grade) && isDay(g.Until) && isWithin(g.Points, 0, api.MaxPoint)
	}
	isClient := func(points int) bool { return isWithin(points, 1, api.MaxPoint) }
	isMade := func(r api.Rope) bool { return r.Made <= o.Day }
	return isDay(o.Day) && isGrade(o.Grade) && isWithin(o.Spacing, 1, api.MaxLength) &&
		len(o.Guides) <= api.MaxGuides && all(o.Guides, isGuide) &&
		len(o.Clients) <= api.MaxClients && all(o.Clients, isClient) &&
		len(o.Ropes) <= api.MaxRopes && all(o.Ropes, isMade)
}

func isDay(day int) bool { return isWithin(day, 0, api.MaxDay) }

func isGrade(grade int) bool { return isWithin(grade, 1, api.MaxGrade) }

// all reports whether something is true of each element.
func all[T any](elements []T, is func(x T) bool) bool {
	for _, x := range elements {
		if !is(x) {
			return false
		}
	}
	return true
}

// inOrder reports whether each element but the first one may follow the one before.
func inOrder[T any](elements []T, mayFollow func(before, after T) bool) bool {
	for i := range len(elements) - 1 {
		if !mayFollow(elements[i], elements[i+1]) {
			return false
		}
	}
	return true
}

func isSpanWithin(s api.Span, low, high int) bool {
	return low <= s.Low && s.Low <= s.High && s.High <= high
}

func isWithin(x, low, high int) bool { return low <= x && x <= high }
