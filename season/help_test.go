package season_test

import (
	"reflect"
	"slices"
	"strings"
	"testing"

	"bivouac/api"
	"bivouac/season"
)

func span(low, high int) api.Span { return api.Span{Low: low, High: high} }

func always() []api.Span { return []api.Span{span(0, api.MaxMinute)} }

func stay(hut, low, high int) api.Stay { return api.Stay{Hut: hut, Nights: span(low, high)} }

func request(id, stamp, people int, stays ...api.Stay) api.Message {
	return api.Message{Kind: api.Request, Id: id, Stamp: stamp, People: people, Stays: stays}
}

func cancel(id int) api.Message { return api.Message{Kind: api.Cancel, Id: id} }

// exampleA is the season A of the chapter.
func exampleA() api.Season {
	return api.Season{
		Net: api.Net{Places: 4, Paths: []api.Path{
			{From: 0, To: 1, Grade: 2, Time: span(100, 120), Opens: always()},
			{From: 1, To: 2, Grade: 3, Time: span(60, 90), Snow: span(4, 10), Opens: always()},
			{From: 2, To: 3, Grade: 2, Time: span(60, 60), Opens: []api.Span{span(400, 700)}},
			{From: 0, To: 3, Grade: 2, Time: span(300, 400), Opens: always()},
			{From: 3, To: 0, Grade: 2, Time: span(200, 240), Opens: always()},
		}},
		Chain: api.Chain{Huts: []api.Hut{{Beds: 3, Emergency: 2}, {Beds: 2}}, Nights: 4},
		Water: api.Water{
			Springs: []api.Spring{{Yield: span(10, 20), Fuel: 4}, {Yield: span(30, 30), Fuel: 9}, {Yield: span(5, 50), Fuel: 2}},
			Most:    1, Misses: 1,
		},
		Model: api.Model{Shelf: 3650, Use: 1825, Bears: 10, Wears: []api.Wear{{Factor: 30, Damage: 1}, {Factor: 100, Damage: 4}, {Factor: 170, Damage: 10}}},
	}
}

// changed returns the season A with a change.
func changed(change func(x *api.Season)) api.Season {
	x := exampleA()
	change(&x)
	return x
}

// exampleScript is the script of the chapter, with its answers.
func exampleScript() []string {
	return []string{
		"book 5 10 2 0 0 1 = accepted", "book 3 20 2 0 1 2 = waits", "accepted = 5", "beds 0 1 = 1", "letin 0 4 = 1 2 1",
		"cancel 5 = ok", "accepted = 3", "book 5 10 2 0 0 1 = cancelled", "undo = ok", "waiting = 3", "redo = ok",
		"sample 3 0 = ok", "sample 3 0 = ok", "clean = 3 7", "sample 3 1 = against 0 1", "serve 41 = 3 4 2",
		"rope 50 = rope 0", "fall 0 20 30 100 = no", "use 0 = ok", "fall 0 80 80 50 = ok", "fall 0 20 90 40 = ok", "fit 0 = maybe", "use 0 = unfit",
		"go 7 0 3 300 30 = ok", "seen 7 420 1 = ok", "unseen 7 500 2 = ok", "where 7 600 = 1 2 3 - 1 2 4", "where 7 499 = no",
		"seen 7 430 0 = ok", "where 7 600 = against 0 2", "back 7 = ok", "where 7 600 = no",
		"day 4 = no", "day 3 = ok", "day 03 = ?",
	}
}

// linesOf returns the lines of a dialog, whose elements are lines with their answers.
func linesOf(dialog []string) []string {
	var lines []string
	for _, x := range dialog {
		line, _, _ := strings.Cut(x, " = ")
		lines = append(lines, line)
	}
	return lines
}

// run runs a script that has no error.
func run(t *testing.T, x api.Season, script []string) ([]string, api.Register) {
	t.Helper()
	answers, end, e := season.Run(x, script)
	if e != api.OK || len(answers) != len(script) {
		t.Fatalf("Run of %q with %+v: %q, %d", script, x, answers, e)
	}
	return answers, end
}

// checkDialog compares the answers to the lines of a dialog with those that it has, and
// returns the register.
func checkDialog(t *testing.T, what string, x api.Season, dialog ...string) api.Register {
	t.Helper()
	answers, end := run(t, x, linesOf(dialog))
	for i, line := range dialog {
		if _, want, _ := strings.Cut(line, " = "); answers[i] != want {
			t.Errorf("%s: the line %d, %q: %q", what, i, line, answers[i])
		}
	}
	return end
}

// checkRegister compares a register with the one that is wanted.
func checkRegister(t *testing.T, what string, end, want api.Register) {
	t.Helper()
	if !isSame(end, want) {
		t.Errorf("%s: the register is %+v, want %+v", what, end, want)
	}
}

// isSame reports whether two registers are equal. A nil slice equals an empty one.
func isSame(a, b api.Register) bool { return reflect.DeepEqual(plain(a), plain(b)) }

// plain returns a register in which slices without elements are nil.
func plain(r api.Register) api.Register {
	r.Messages, r.Samples, r.Ropes, r.Gone = fresh(r.Messages), fresh(r.Samples), fresh(r.Ropes), fresh(r.Gone)
	for i := range r.Messages {
		r.Messages[i].Stays = fresh(r.Messages[i].Stays)
	}
	for i := range r.Ropes {
		r.Ropes[i].Falls = fresh(r.Ropes[i].Falls)
	}
	for i := range r.Gone {
		r.Gone[i].Missed.Clues = fresh(r.Gone[i].Missed.Clues)
	}
	return r
}

// fresh returns a copy of a list; nil if it has no elements.
func fresh[T any](list []T) []T { return append([]T(nil), list...) }

// many returns a line several times.
func many(count int, line string) []string { return slices.Repeat([]string{line}, count) }

func isTrue(b bool) int {
	if b {
		return 1
	}
	return 0
}
