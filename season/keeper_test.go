package season_test

import (
	"fmt"
	"reflect"
	"regexp"
	"slices"
	"strconv"
	"strings"

	"bivouac/api"
	"bivouac/beds"
	"bivouac/missing"
	"bivouac/ropes"
	"bivouac/water"
)

// keeper answers lines by the definitions of the chapter, by hand. Its register is made
// anew for each line, of the changes that count; so there are no stacks.
type keeper struct {
	x       api.Season
	changes []func(r *api.Register) // also those that are undone
	count   int                     // how many of them count
}

func (k *keeper) register() api.Register {
	var r api.Register
	for _, change := range k.changes[:k.count] {
		change(&r)
	}
	return r
}

// do makes a change, unless it leaves the register equal.
func (k *keeper) do(change func(r *api.Register)) {
	after := k.register()
	change(&after)
	if !reflect.DeepEqual(after, k.register()) {
		k.changes = append(k.changes[:k.count:k.count], change)
		k.count++
	}
}

var counts = map[string]int{
	"day": 1, "book": 6, "cancel": 1, "accepted": 0, "waiting": 0, "beds": 2, "letin": 2,
	"sample": 2, "clean": 0, "serve": 1, "rope": 1, "use": 1, "fall": 4, "fit": 1,
	"go": 5, "seen": 3, "unseen": 3, "back": 1, "where": 2, "undo": 0, "redo": 0,
}

var formOfLine = regexp.MustCompile(`\A([a-z]+)((?: (?:0|-?[1-9][0-9]{0,4}))*)\z`)

func (k *keeper) answer(line string) string {
	match := formOfLine.FindStringSubmatch(line)
	if match == nil {
		return "?"
	}
	var n []int
	for _, x := range strings.Fields(match[2]) {
		number, _ := strconv.Atoi(x)
		n = append(n, number)
	}
	if count, ok := counts[match[1]]; !ok || count != len(n) {
		return "?"
	}
	switch word := match[1]; word {
	case "book", "cancel", "accepted", "waiting", "beds", "letin":
		return k.office(word, n)
	case "sample", "clean", "serve":
		return k.springs(word, n)
	case "rope", "use", "fall", "fit":
		return k.gear(word, n)
	case "go", "seen", "unseen", "back", "where":
		return k.parties(word, n)
	default:
		return k.time(word, n)
	}
}

func (k *keeper) time(word string, n []int) string {
	switch {
	case word == "day" && k.register().Day <= n[0] && n[0] < k.x.Chain.Nights:
		k.do(func(r *api.Register) { r.Day = n[0] })
	case word == "undo" && k.count > 0:
		k.count--
	case word == "redo" && k.count < len(k.changes):
		k.count++
	default:
		return "no"
	}
	return "ok"
}

func isIn(x, low, high int) bool { return x >= low && x <= high }

// put puts a message at the end of the messages, unless it is there, or there are too many.
func (k *keeper) put(m api.Message) bool {
	l := k.register().Messages
	isKnown := slices.ContainsFunc(l, func(o api.Message) bool { return reflect.DeepEqual(o, m) })
	if !isKnown && len(l) >= 40 {
		return false
	}
	if !isKnown {
		k.do(func(r *api.Register) { r.Messages = append(r.Messages, m) })
	}
	return true
}

func (k *keeper) book(n []int) string {
	m, c := request(n[0], n[1], n[2], stay(n[3], n[4], n[5])), k.x.Chain
	isValid := isIn(n[0], 0, 99) && isIn(n[1], 0, 9999) && isIn(n[2], 1, 20) && isIn(n[3], 0, len(c.Huts)-1) &&
		isIn(n[4], 0, c.Nights-1) && isIn(n[5], n[4], c.Nights-1)
	clashes := slices.ContainsFunc(k.register().Messages, func(o api.Message) bool {
		return o.Kind == api.Request && o.Id == m.Id && !reflect.DeepEqual(o, m)
	})
	if !isValid || clashes || !k.put(m) {
		return "no"
	}
	accepted, _ := beds.Accepted(c, k.register().Messages)
	waiting, _ := beds.Waiting(c, k.register().Messages)
	if slices.Contains(accepted, n[0]) {
		return "accepted"
	}
	if slices.Contains(waiting, n[0]) {
		return "waits"
	}
	return "cancelled"
}

func (k *keeper) office(word string, n []int) string {
	r, c := k.register(), k.x.Chain
	switch {
	case word == "book":
		return k.book(n)
	case word == "cancel" && isIn(n[0], 0, 99) && k.put(cancel(n[0])):
		return "ok"
	case word == "accepted":
		ids, _ := beds.Accepted(c, r.Messages)
		return listOr(ids, "none")
	case word == "waiting":
		ids, _ := beds.Waiting(c, r.Messages)
		return listOr(ids, "none")
	case word == "beds" && isIn(n[0], 0, len(c.Huts)-1) && isIn(n[1], 0, c.Nights-1):
		left, _ := beds.Left(c, r.Messages, n[0], n[1])
		return fmt.Sprint(left)
	case word == "letin" && isIn(n[0], 0, len(c.Huts)-1) && isIn(n[1], 0, 100):
		bed, emergency, floor, _ := beds.LetIn(c, r.Messages, n[0], r.Day, n[1])
		return fmt.Sprint(bed, " ", emergency, " ", floor)
	}
	return "no"
}

// listOr returns numbers with blanks between them, or a word if there are none.
func listOr(numbers []int, word string) string {
	if len(numbers) == 0 {
		return word
	}
	return strings.Trim(fmt.Sprint(numbers), "[]")
}

func (k *keeper) springs(word string, n []int) string {
	w, r := k.x.Water, k.register()
	w.Samples = r.Samples
	switch {
	case word == "sample" && isIn(n[1], 0, 1) && isIn(n[0], 1, 1<<len(w.Springs)-1) && len(w.Samples) < 20:
		s := api.Sample{Mix: n[0], Foul: n[1] == 1}
		w.Samples = append(slices.Clone(w.Samples), s)
		if _, e := water.Truths(w); e == api.ErrNone {
			all, _ := water.Conflict(w)
			others := slices.DeleteFunc(all, func(i int) bool { return i == len(r.Samples) })
			return strings.TrimSpace("against " + listOr(others, ""))
		}
		k.do(func(r *api.Register) { r.Samples = append(r.Samples, s) })
		return "ok"
	case word == "clean":
		sure, may, _ := water.Clean(w)
		return fmt.Sprint(sure, " ", may)
	case word == "serve" && isIn(n[0], 0, 10000):
		plain, treated, fuel, e := water.Serve(w, n[0])
		if e == api.ErrNone {
			return "none"
		}
		return fmt.Sprint(plain, " ", treated, " ", fuel)
	}
	return "no"
}

func (k *keeper) gear(word string, n []int) string {
	r := k.register()
	if word == "rope" {
		if !isIn(n[0], 1, 100) || len(r.Ropes) >= 6 {
			return "no"
		}
		k.do(func(r *api.Register) { r.Ropes = append(r.Ropes, api.Rope{Made: r.Day, First: -1, Length: n[0]}) })
		return fmt.Sprint("rope ", len(r.Ropes))
	}
	if !isIn(n[0], 0, len(r.Ropes)-1) {
		return "no"
	}
	sure, may, _ := ropes.Fit(k.x.Model, r.Ropes[n[0]], r.Day)
	switch {
	case word == "fall":
		x := r.Ropes[n[0]]
		if x.First == -1 || len(x.Falls) >= 10 || !isIn(n[1], 1, 1000) || !isIn(n[2], n[1], 1000) || !isIn(n[3], 1, 1000) {
			return "no"
		}
		k.do(func(r *api.Register) {
			falls := &r.Ropes[n[0]].Falls
			*falls = append(*falls, api.Fall{Day: r.Day, Height: span(n[1], n[2]), Out: span(n[3], n[3])})
		})
		return "ok"
	case word == "use" && sure:
		k.do(func(r *api.Register) {
			if x := &r.Ropes[n[0]]; x.First == -1 {
				x.First = r.Day
			}
		})
		return "ok"
	case word == "fit" && sure:
		return "sure"
	case word == "fit" && may:
		return "maybe"
	}
	return "unfit"
}

func (k *keeper) parties(word string, n []int) string {
	r, places := k.register(), k.x.Net.Places
	i := slices.IndexFunc(r.Gone, func(g api.Gone) bool { return g.Id == n[0] && !g.Back })
	if word == "go" {
		if i >= 0 || len(r.Gone) >= 6 || !isIn(n[0], 0, 99) || !isIn(n[1], 0, places-1) || !isIn(n[2], 1, 6) || !isIn(n[3], 0, 2880) || !isIn(n[4], 0, 600) {
			return "no"
		}
		x := api.Missed{Party: api.Party{Grade: n[2], Pace: span(100, 100)}, Place: n[1], Start: n[3], Now: n[3], Rest: n[4]}
		k.do(func(r *api.Register) { r.Gone = append(r.Gone, api.Gone{Id: n[0], Missed: x}) })
		return "ok"
	}
	if i < 0 {
		return "no"
	}
	x := r.Gone[i].Missed
	switch {
	case word == "back":
		k.do(func(r *api.Register) { r.Gone[i].Back = true })
		return "ok"
	case !isIn(n[1], x.Start, 2880):
		return "no"
	case word == "where":
		return k.where(x, n[1])
	case isIn(n[2], 0, places-1) && len(x.Clues) < 12:
		c := api.Clue{Minute: n[1], Places: 1 << n[2], Seen: word == "seen"}
		k.do(func(r *api.Register) { r.Gone[i].Missed.Clues = append(r.Gone[i].Missed.Clues, c) })
		return "ok"
	}
	return "no"
}

func (k *keeper) where(x api.Missed, now int) string {
	if slices.ContainsFunc(x.Clues, func(c api.Clue) bool { return c.Minute > now }) {
		return "no"
	}
	x.Now = now
	places, ways, e := missing.Where(k.x.Net, x)
	if e == api.ErrNone {
		clues, _ := missing.Conflict(k.x.Net, x)
		return "against " + listOr(clues, "")
	}
	return strings.TrimSpace(listOr(places, "") + " - " + listOr(ways, ""))
}
