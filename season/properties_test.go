package season_test

import (
	"fmt"
	"math/rand"
	"slices"
	"strconv"
	"strings"
	"testing"

	"bivouac/api"
	"bivouac/missing"
	"bivouac/paths"
	"bivouac/ropes"
	"bivouac/season"
)

// TestP12_2_all: in any season all answers, and the register, are what the definitions
// say.
func TestP12_2_all(t *testing.T) {
	kinds := map[string]int{}
	eachScript(t, 2, 2000, api.MaxScript, func(r *rand.Rand, x api.Season, script []string) {
		answers, end := run(t, x, script)
		k := keeper{x: x}
		for i, line := range script {
			want := k.answer(line)
			if answers[i] != want {
				t.Errorf("the line %d, %q: %q, want %q", i, line, answers[i], want)
			}
			word, _, _ := strings.Cut(line, " ")
			kind, _, _ := strings.Cut(want, " ")
			kinds[word+": "+kind]++
		}
		checkRegister(t, "the end", end, k.register())
	})
	for _, kind := range []string{
		"day: ok", "day: no", "book: accepted", "book: waits", "book: cancelled", "book: no", "cancel: ok", "cancel: no", "accepted: none", "waiting: none", "letin: no", "beds: no",
		"sample: ok", "sample: no", "sample: against", "serve: none", "rope: rope", "rope: no", "use: ok", "use: no", "use: unfit",
		"fall: ok", "fall: no", "fit: sure", "fit: maybe", "fit: unfit", "fit: no", "go: ok", "go: no", "seen: ok", "seen: no", "unseen: ok", "unseen: no",
		"back: ok", "back: no", "where: against", "where: 1", "where: no", "undo: ok", "undo: no", "redo: ok", "redo: no", "book: ?", "undo: ?", "serve: 0",
	} {
		if kinds[kind] < 20 {
			t.Errorf("just %d answers of the kind %q", kinds[kind], kind)
		}
	}
}

// ends returns the registers after 0, 1, .. lines of a script.
func ends(t *testing.T, x api.Season, script []string) []api.Register {
	t.Helper()
	var all []api.Register
	for i := range len(script) + 1 {
		_, end := run(t, x, script[:i])
		all = append(all, end)
	}
	return all
}

// isIdle reports whether a line with an answer changes nothing.
func isIdle(line, answer string) bool {
	word, _, _ := strings.Cut(line, " ")
	isQuestion := slices.Contains([]string{"accepted", "waiting", "beds", "letin", "clean", "serve", "fit", "where"}, word)
	return isQuestion || strings.HasPrefix(answer, "against") || slices.Contains([]string{"?", "no", "unfit"}, answer)
}

// TestP12_5: answers do not depend on later lines; what is refused, and a question,
// changes nothing.
func TestP12_5(t *testing.T) {
	idle, others := 0, 0
	eachScript(t, 5, 100, 50, func(r *rand.Rand, x api.Season, script []string) {
		answers, _ := run(t, x, script)
		all := ends(t, x, script)
		for i, line := range script {
			first, _ := run(t, x, script[:i+1])
			if !slices.Equal(first, answers[:i+1]) {
				t.Errorf("the answers to %d lines: %q, and with the others %q", i+1, first, answers)
			}
			if !isIdle(line, answers[i]) {
				others += isTrue(!isSame(all[i], all[i+1]))
				continue
			}
			checkRegister(t, line, all[i+1], all[i])
			idle++
		}
	})
	if min(idle, others) < 500 {
		t.Errorf("just %d lines that change nothing, and %d others", idle, others)
	}
}

// TestP12_6: after a change and undo the register is that before it, and after redo that
// before undo.
func TestP12_6(t *testing.T) {
	changes := 0
	eachScript(t, 6, 100, 50, func(r *rand.Rand, x api.Season, script []string) {
		all := ends(t, x, script)
		for i, line := range script {
			if line == "undo" || line == "redo" || isSame(all[i], all[i+1]) {
				continue
			}
			changes++
			answers, end := run(t, x, slices.Concat(script[:i+1], []string{"redo", "undo"}))
			checkRegister(t, "undone "+line, end, all[i])
			again, end := run(t, x, slices.Concat(script[:i+1], []string{"undo", "redo"}))
			checkRegister(t, "redone "+line, end, all[i+1])
			if answers[i+1] != "no" || answers[i+2] != "ok" || again[i+1] != "ok" || again[i+2] != "ok" {
				t.Errorf("undo and redo of %q: %q, %q", line, answers[i+1:], again[i+1:])
			}
		}
	})
	if changes < 500 {
		t.Errorf("just %d changes", changes)
	}
}

// TestP12_6_all: after as many undos as there were changes the register is empty again,
// and no more can be undone; after as many redos it is what it was.
func TestP12_6_all(t *testing.T) {
	most := 0
	eachScript(t, 61, 300, 39, func(r *rand.Rand, x api.Season, script []string) {
		script = withoutUndo(script)
		all := ends(t, x, script)
		count := 0
		for i := range script {
			count += isTrue(!isSame(all[i], all[i+1]))
		}
		most = max(most, count)
		answers, end := run(t, x, slices.Concat(script, many(count, "undo"), []string{"undo"}))
		checkRegister(t, "all undone", end, api.Register{})
		if answers[len(answers)-1] != "no" || slices.Contains(answers[len(script):len(answers)-1], "no") {
			t.Errorf("%d undos: %q", count+1, answers[len(script):])
		}
		if len(script)+2*count < api.MaxScript {
			answers, end = run(t, x, slices.Concat(script, many(count, "undo"), many(count, "redo"), []string{"redo"}))
			checkRegister(t, "all redone", end, all[len(script)])
			if answers[len(answers)-1] != "no" {
				t.Errorf("%d redos: %q", count+1, answers[len(script)+count:])
			}
		}
	})
	if most < 15 {
		t.Errorf("at most %d changes", most)
	}
}

// isOffice reports whether a line changes the messages.
func isOffice(line string) bool {
	return strings.HasPrefix(line, "book ") || strings.HasPrefix(line, "cancel ")
}

// TestP12_7: in any order of bookings and cancellations the same ones are accepted, and
// wait in the same order.
func TestP12_7(t *testing.T) {
	moved := 0
	eachScript(t, 7, 5000, 30, func(r *rand.Rand, x api.Season, script []string) {
		script = append(withoutUndo(script), "accepted", "waiting")
		want, _ := run(t, x, script)
		var places []int
		for i, line := range script {
			if isOffice(line) && (want[i] == "no" || want[i] == "?") {
				script[i] = "accepted"
			}
			if isOffice(script[i]) {
				places = append(places, i)
			}
		}
		want, _ = run(t, x, script)
		other := slices.Clone(script)
		for i, j := range r.Perm(len(places)) {
			other[places[i]] = script[places[j]]
		}
		got, _ := run(t, x, other)
		last := len(script) - 2
		if !slices.Equal(got[last:], want[last:]) || slices.ContainsFunc(places, func(i int) bool { return got[i] == "no" }) {
			t.Errorf("%q: %q, but %q: %q", other, got, script, want)
		}
		moved += isTrue(len(places) > 4 && got[last+1] != "none")
	})
	if moved < 100 {
		t.Errorf("just %d scripts with bookings that wait", moved)
	}
}

// numbersOf returns the numbers of an answer.
func numbersOf(answer string) []int {
	var numbers []int
	for _, word := range strings.Fields(answer) {
		if x, err := strconv.Atoi(word); err == nil {
			numbers = append(numbers, x)
		}
	}
	return numbers
}

// pickFoul returns a truth of some water, and a test of a mix that is wrong if it may be.
func pickFoul(r *rand.Rand, w api.Water) (truth int, test func() string) {
	for range w.Most {
		truth |= r.Intn(2) << r.Intn(len(w.Springs))
	}
	misses, alarms := w.Misses, w.Alarms
	return truth, func() string {
		mix := 1 + r.Intn(1<<len(w.Springs)-1)
		found := isTrue(mix&truth != 0)
		if r.Intn(4) == 0 && found == 1 && misses > 0 {
			misses--
			found = 0
		} else if r.Intn(4) == 0 && found == 0 && alarms > 0 {
			alarms--
			found = 1
		}
		return fmt.Sprintf("sample %d %d", mix, found)
	}
}

// TestP12_8: what is served without treatment is clean, whichever springs are foul with
// no more wrong samples than there may be.
func TestP12_8(t *testing.T) {
	r := rand.New(rand.NewSource(8))
	served := 0
	for range 1000 {
		x := pickSeason(r)
		truth, test := pickFoul(r, x.Water)
		var script []string
		for range r.Intn(10) {
			script = append(script, test(), fmt.Sprint("serve ", r.Intn(40)), "undo", "redo")
		}
		answers, _ := run(t, x, script)
		for i, line := range script {
			if numbers := numbersOf(answers[i]); strings.HasPrefix(line, "serve") && len(numbers) == 3 {
				if numbers[0]&truth != 0 {
					t.Fatalf("%+v, %q: %q, but %d are foul", x.Water, script, answers, truth)
				}
				served += isTrue(numbers[0] != 0 && truth != 0)
			}
			if strings.HasPrefix(line, "sample") && answers[i] != "ok" {
				t.Fatalf("%+v, %q: %q, but %d can be foul", x.Water, script, answers, truth)
			}
		}
	}
	if served < 500 {
		t.Errorf("just %d answers with springs that are clean while others are foul", served)
	}
}

// TestP12_9: a rope that is used surely is fit on this day; what is not, is not used.
func TestP12_9(t *testing.T) {
	used, unfit := 0, 0
	eachScript(t, 9, 1500, api.MaxScript, func(r *rand.Rand, x api.Season, script []string) {
		answers, _ := run(t, x, script)
		for i, line := range script {
			if !strings.HasPrefix(line, "use ") || answers[i] != "ok" && answers[i] != "unfit" {
				continue
			}
			_, end := run(t, x, script[:i+1])
			sure, _, e := ropes.Fit(x.Model, end.Ropes[numbersOf(line)[0]], end.Day)
			if sure != (answers[i] == "ok") || e != api.OK {
				t.Errorf("the line %d, %q: %q, but Fit of %+v on the day %d: %t, %d", i, line, answers[i], end.Ropes, end.Day, sure, e)
			}
			used += isTrue(sure)
			unfit += isTrue(!sure)
		}
	})
	if min(used, unfit) < 100 {
		t.Errorf("just %d ropes are used, and %d are not", used, unfit)
	}
}

// walker is a party that walks in a net: where it is from which minute on. On a path it is
// at the place -1.
type walker struct {
	minutes, places, paths []int
}

func (w *walker) be(minute, place, path int) {
	w.minutes, w.places, w.paths = append(w.minutes, minute), append(w.places, place), append(w.paths, path)
}

// at returns where the walker is at a minute.
func (w *walker) at(minute int) (place, path int) {
	i := len(w.minutes) - 1
	for w.minutes[i] > minute {
		i--
	}
	return w.places[i], w.paths[i]
}

// pickWalk lets a party walk from a place; at last it is held up somewhere.
func pickWalk(r *rand.Rand, n api.Net, grade, from, start, rest int) *walker {
	w := &walker{}
	w.be(start, from, -1)
	p, place, minute := api.Party{Grade: grade, Pace: span(100, 100)}, from, start
	for range r.Intn(6) {
		path := r.Intn(len(n.Paths) + 1)
		if path == len(n.Paths) || n.Paths[path].From != place || n.Paths[path].Grade > grade {
			continue
		}
		time, _ := paths.Walk(n, p, path)
		minute += r.Intn(rest + 1)
		w.be(minute+1, -1, path) // at the minute at which it leaves it is at the place
		if r.Intn(5) == 0 {
			break
		}
		minute += time.Low + r.Intn(time.High-time.Low+1)
		place = n.Paths[path].To
		w.be(minute, place, -1)
	}
	return w
}

// TestP12_10: a party that is out and did what its clues say is at one of the places, or
// on one of the paths, of the answer.
func TestP12_10(t *testing.T) {
	r := rand.New(rand.NewSource(10))
	places, ways := 0, 0
	for range 4000 {
		x := pickSeason(r)
		from, grade, start, rest := r.Intn(x.Net.Places), 1+r.Intn(4), r.Intn(100), r.Intn(60)
		w := pickWalk(r, x.Net, grade, from, start, rest)
		script := []string{fmt.Sprintf("go 7 %d %d %d %d", from, grade, start, rest)}
		now := start
		for range r.Intn(api.MaxClues + 1) {
			minute, other := start+r.Intn(400), r.Intn(x.Net.Places)
			now = max(now, minute)
			if place, _ := w.at(minute); place == other {
				script = append(script, fmt.Sprintf("seen 7 %d %d", minute, other))
			} else {
				script = append(script, fmt.Sprintf("unseen 7 %d %d", minute, other))
			}
		}
		now += r.Intn(300)
		answers, _ := run(t, x, append(script, fmt.Sprint("where 7 ", now)))
		at, on, ok := strings.Cut(answers[len(script)], "-")
		place, path := w.at(now)
		if !ok || path < 0 && !slices.Contains(numbersOf(at), place) || path >= 0 && !slices.Contains(numbersOf(on), path) {
			t.Fatalf("%+v, %q: %q at %d, but it is at %d or on %d", x.Net, script, answers, now, place, path)
		}
		places += isTrue(path < 0 && place != from)
		ways += isTrue(path >= 0)
	}
	if min(places, ways) < 100 {
		t.Errorf("just %d parties at another place, and %d on a path", places, ways)
	}
}

// TestP12_10_where: the answer is what is told of the party of the register.
func TestP12_10_where(t *testing.T) {
	_, end := run(t, exampleA(), linesOf(exampleScript())[:26])
	x := end.Gone[0].Missed
	x.Now = 600
	places, ways, e := missing.Where(exampleA().Net, x)
	if !slices.Equal(places, []int{1, 2, 3}) || !slices.Equal(ways, []int{1, 2, 4}) || e != api.OK {
		t.Errorf("Where = %v, %v, %d", places, ways, e)
	}
}

// TestP12_11: what is written can be read, and leads to the same answers and register
// (P0.7).
func TestP12_11(t *testing.T) {
	for _, seed := range []int64{11, 12, 13} {
		eachScript(t, seed, 200, api.MaxScript, func(r *rand.Rand, x api.Season, script []string) {
			script = slices.DeleteFunc(script, func(line string) bool { return !isWritable(line) })
			text, e := season.Write(script)
			again, at, e2 := season.Read(text)
			if e != api.OK || e2 != api.OK || at != 0 || !slices.Equal(again, script) {
				t.Errorf("Read of %q = %q, %d, %d", text, again, at, e2)
			}
			want, end := run(t, x, script)
			answers, end2 := run(t, x, again)
			if !slices.Equal(answers, want) {
				t.Errorf("replayed: %q, want %q", answers, want)
			}
			checkRegister(t, "replayed", end2, end)
		})
	}
}
