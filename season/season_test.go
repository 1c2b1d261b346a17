package season_test

import (
	"fmt"
	"slices"
	"testing"

	"bivouac/api"
)

// TestP12_2_example: the script of the chapter, its answers, and the register after it.
func TestP12_2_example(t *testing.T) {
	end := checkDialog(t, "the example", exampleA(), exampleScript()...)
	checkRegister(t, "the example", end, api.Register{
		Day:      3,
		Messages: []api.Message{request(5, 10, 2, stay(0, 0, 1)), request(3, 20, 2, stay(0, 1, 2)), cancel(5)},
		Samples:  []api.Sample{{Mix: 3}, {Mix: 3}},
		Ropes:    []api.Rope{{Length: 50, Falls: []api.Fall{{Height: span(80, 80), Out: span(50, 50)}, {Height: span(20, 90), Out: span(40, 40)}}}},
		Gone: []api.Gone{{Id: 7, Back: true, Missed: api.Missed{
			Party: api.Party{Grade: 3, Pace: span(100, 100)}, Start: 300, Now: 300, Rest: 30,
			Clues: []api.Clue{{Minute: 420, Places: 2, Seen: true}, {Minute: 500, Places: 4}, {Minute: 430, Places: 1, Seen: true}},
		}}},
	})
	checkRegister(t, "no lines", checkDialog(t, "no lines", exampleA()), api.Register{})
}

// TestP12_2_forms: lines that have not one of the forms. None of them changes anything.
func TestP12_2_forms(t *testing.T) {
	for _, line := range []string{
		"", " ", "  ", "x", "ok", "?", "end", "Day 1", "DAY 1", "day", "day ", "day  1", " day 1", "day 1 ", "day 1 2", "day1", "day\t1", "day 1\n", "\nday 1", "day 1\x00", "day,1",
		"day x", "day 1x", "day x1", "day +1", "day -", "day -0", "day --1", "day 1-", "day 00", "day 01", "day -01", "day 000001", "day 100000", "day -100000", "day 123456", "day 1.0", "day 1e0", "day 0x1", "day 1_0",
		"day 99999999999999999999", "day 18446744073709551617", "day \u0661", "day \uff11", "day \xb1", "day 1\xff", "d\u00e4y 1", "\u2007day 1", "day\u00a01", "day \u22121", "day :", "day /", "day 1:", "day 1/",
		"accepted ", " accepted", "accepted 0", "accepted x", "waiting 1", "clean ", "clean 1", "undo 1", "undo ", "redo 0", "redo\n", "accept", "accepteds", "accepted waiting",
		"book", "book 5 10 2 0 0", "book 5 10 2 0 0 1 1", "book 5 10 2 0 0 x", "book 5 10 2  0 0 1", "book 5,10,2,0,0,1", "cancel", "cancel 1 2", "beds 0", "beds 0 1 2", "letin 0", "letin 0 1 2",
		"sample 1", "sample 1 0 0", "serve", "serve 1 2", "rope", "rope 1 2", "use", "use 0 0", "fall 0 1 1", "fall 0 1 1 1 1", "fit", "fit 0 0",
		"go 1 0 3 0", "go 1 0 3 0 0 0", "seen 1 0", "seen 1 0 0 0", "unseen 1 0", "unseen 1 0 0 0", "back", "back 1 1", "where 1", "where 1 0 0",
	} {
		answers, end := run(t, exampleA(), []string{line})
		if answers[0] != "?" {
			t.Errorf("%q: %q", line, answers[0])
		}
		checkRegister(t, line, end, api.Register{})
	}
}

// TestP12_2_numbers: numbers of the right form that are negative, or as great as they can
// be, are not valid, but read.
func TestP12_2_numbers(t *testing.T) {
	checkDialog(t, "numbers", exampleA(),
		"day -1 = no", "day 99999 = no", "day -99999 = no", "day 10000 = no", "cancel -1 = no", "cancel 0 = ok", "cancel 99999 = no", "serve 0 = 0 0 0", "serve 10 = 0 1 4", "serve -10 = no", "serve 99999 = no", "letin 0 0 = 0 0 0",
		"book 1 9999 1 0 0 0 = accepted", "book -1 -1 -1 -1 -1 -1 = no", "book 99999 99999 99999 99999 99999 99999 = no", "seen 1 99999 99999 = no", "fall 99999 99999 99999 99999 = no", "use -99999 = no")
}

// TestP12_2_day: days do not go back, and are those of the chain. The same day is no
// change.
func TestP12_2_day(t *testing.T) {
	end := checkDialog(t, "day", exampleA(),
		"day 0 = ok", "undo = no", "day -1 = no", "day 4 = no", "day 2 = ok", "day 2 = ok", "day 1 = no", "day 0 = no", "undo = ok", "day 1 = ok", "undo = ok", "undo = no", "redo = ok", "day 3 = ok", "day 4 = no", "day 3 = ok", "redo = no")
	checkRegister(t, "day", end, api.Register{Day: 3})
	one := changed(func(x *api.Season) { x.Chain.Nights = 1 })
	checkDialog(t, "one night", one, "day 0 = ok", "day 1 = no")
	full := changed(func(x *api.Season) { x.Chain.Nights = 20 })
	checkDialog(t, "all nights", full, "day 20 = no", "day 19 = ok", "day 19 = ok", "letin 0 1 = 1 0 0")
}

// TestP12_2_book: what becomes of a request; those that are not valid or clash, at their
// limits; and those that are there already.
func TestP12_2_book(t *testing.T) {
	end := checkDialog(t, "book", exampleA(),
		"book 1 5 2 0 1 2 = accepted", "undo = ok", "redo = ok", "book 1 5 2 0 1 2 = accepted", "book 2 5 2 0 2 3 = waits", "book 2 5 2 0 2 3 = waits", "cancel 3 = ok", "book 3 1 1 1 0 0 = cancelled", "book 3 1 1 1 0 0 = cancelled",
		"book 1 6 2 0 1 2 = no", "book 1 5 1 0 1 2 = no", "book 1 5 2 1 1 2 = no", "book 1 5 2 0 0 2 = no", "book 1 5 2 0 1 3 = no", "book 3 2 1 1 0 0 = no",
		"book 100 0 1 0 0 0 = no", "book -1 0 1 0 0 0 = no", "book 4 -1 1 0 0 0 = no", "book 4 10000 1 0 0 0 = no", "book 4 0 0 0 0 0 = no", "book 4 0 21 0 0 0 = no", "book 4 0 1 2 0 0 = no", "book 4 0 1 -1 0 0 = no",
		"book 4 0 1 0 -1 0 = no", "book 4 0 1 0 1 0 = no", "book 4 0 1 0 3 4 = no", "book 4 0 1 0 4 4 = no",
		"book 99 9999 20 1 0 3 = waits", "book 0 0 1 1 0 3 = accepted")
	checkRegister(t, "book", end, api.Register{Messages: []api.Message{
		request(1, 5, 2, stay(0, 1, 2)), request(2, 5, 2, stay(0, 2, 3)), cancel(3), request(3, 1, 1, stay(1, 0, 0)), request(99, 9999, 20, stay(1, 0, 3)), request(0, 0, 1, stay(1, 0, 3)),
	}})
	checkDialog(t, "before others", exampleA(),
		"book 1 5 2 1 0 0 = accepted", "book 2 4 2 1 0 0 = accepted", "book 1 5 2 1 0 0 = waits", "accepted = 2", "waiting = 1", "undo = ok", "accepted = 1")
	checkDialog(t, "no change", exampleA(),
		"book 1 5 2 1 0 0 = accepted", "book 2 5 2 1 0 0 = waits", "undo = ok", "book 1 5 2 1 0 0 = accepted", "redo = ok", "waiting = 2")
}

// fullOffice is a dialog that ends with as many messages as there can be.
func fullOffice() []string {
	var dialog []string
	for id := range api.MaxMessages {
		dialog = append(dialog, []string{fmt.Sprintf("book %d 0 20 1 0 0 = waits", id), fmt.Sprintf("cancel %d = ok", id)}[id%2])
	}
	return dialog
}

// TestP12_2_full: when there are MaxMessages messages, just those that are there can be
// entered.
func TestP12_2_full(t *testing.T) {
	end := checkDialog(t, "full", exampleA(), append(fullOffice(),
		"book 50 0 1 0 0 0 = no", "cancel 50 = no", "cancel 0 = no", "book 1 0 1 0 0 0 = no", "book 0 0 20 1 0 0 = waits", "cancel 1 = ok", "book 0 1 20 1 0 0 = no", "cancel 39 = ok", "cancel 100 = no", "accepted = none",
		"undo = ok", "book 0 0 1 0 0 0 = no", "book 50 0 1 0 0 0 = accepted", "cancel 39 = no", "redo = no",
	)...)
	if len(end.Messages) != 40 || end.Messages[39].Id != 50 {
		t.Errorf("the messages are %+v", end.Messages)
	}
}

// TestP12_2_cancel: cancellations with and without a request, before or behind it.
func TestP12_2_cancel(t *testing.T) {
	end := checkDialog(t, "cancel", exampleA(),
		"cancel 7 = ok", "cancel 7 = ok", "undo = ok", "undo = no", "redo = ok", "book 7 0 1 0 0 0 = cancelled", "accepted = none", "waiting = none", "cancel -1 = no", "cancel 100 = no", "cancel 0 = ok", "cancel 99 = ok",
		"book 8 0 1 0 0 0 = accepted", "cancel 8 = ok", "accepted = none", "undo = ok", "accepted = 8")
	checkRegister(t, "cancel", end, api.Register{Messages: []api.Message{cancel(7), request(7, 0, 1, stay(0, 0, 0)), cancel(0), cancel(99), request(8, 0, 1, stay(0, 0, 0))}})
}

// TestP12_2_office: questions about the messages.
func TestP12_2_office(t *testing.T) {
	end := checkDialog(t, "the office", exampleA(),
		"accepted = none", "waiting = none", "book 9 3 1 0 0 3 = accepted", "book 2 4 2 0 1 1 = accepted", "book 30 5 1 0 1 1 = waits", "book 4 4 3 0 0 1 = waits", "book 11 5 2 0 1 2 = waits", "accepted = 2 9", "waiting = 4 11 30",
		"beds 0 0 = 2", "beds 0 1 = 0", "beds 0 2 = 2", "beds 0 3 = 2", "beds 1 3 = 2", "beds 2 0 = no", "beds -1 0 = no", "beds 0 4 = no", "beds 0 -1 = no",
		"letin 0 0 = 0 0 0", "letin 0 5 = 2 2 1", "letin 1 5 = 2 0 3", "letin 0 100 = 2 2 96", "letin 0 101 = no", "letin 0 -1 = no", "letin 2 0 = no", "letin -1 0 = no",
		"day 1 = ok", "letin 0 5 = 0 2 3", "day 3 = ok", "letin 0 5 = 2 2 1")
	if len(end.Messages) != 5 || end.Day != 3 {
		t.Errorf("the register is %+v", end)
	}
}

// TestP12_2_springs: samples with and without a contradiction, and what is clean.
func TestP12_2_springs(t *testing.T) {
	end := checkDialog(t, "the springs", exampleA(),
		"clean = 0 7", "serve 0 = 0 0 0", "serve 1 = 0 4 2", "sample 0 0 = no", "sample 8 0 = no", "sample -1 0 = no", "sample 1 2 = no", "sample 1 -1 = no", "sample 8 2 = no",
		"sample 7 0 = ok", "sample 7 0 = ok", "clean = 7 7", "sample 4 1 = against 0 1", "serve 45 = 7 0 0", "serve 46 = none", "serve 10000 = none", "serve 10001 = no", "serve -1 = no",
		"undo = ok", "sample 4 1 = ok", "clean = 3 3", "sample 2 1 = against 1", "sample 4 0 = against 0 1", "undo = ok", "sample 4 0 = ok", "clean = 4 7", "sample 1 1 = ok", "clean = 6 6", "serve 46 = none", "serve 45 = 6 1 4", "serve 35 = 6 0 0")
	checkRegister(t, "the springs", end, api.Register{Samples: []api.Sample{{Mix: 7}, {Mix: 4}, {Mix: 1, Foul: true}}})
	pure := changed(func(x *api.Season) { x.Water.Most = 0 })
	checkDialog(t, "no spring is foul", pure, "clean = 7 7", "sample 1 1 = against", "sample 1 0 = ok", "sample 1 1 = against", "undo = ok", "undo = no")
	alarms := changed(func(x *api.Season) { x.Water.Most, x.Water.Alarms = 0, 2 })
	checkDialog(t, "false alarms", alarms, "sample 1 1 = ok", "sample 1 0 = ok", "sample 6 1 = ok", "sample 2 1 = against 0 2", "sample 2 0 = ok")
}

// TestP12_2_samples: no more than MaxSamples samples; those that contradict each other
// are found among them.
func TestP12_2_samples(t *testing.T) {
	end := checkDialog(t, "samples", exampleA(), append(many(19, "sample 1 0 = ok"),
		"sample 2 0 = ok", "sample 2 0 = no", "sample 1 1 = no", "sample 1 0 = no", "undo = ok", "sample 4 0 = ok", "sample 4 0 = no", "undo = ok", "sample 1 1 = against 17 18")...)
	checkRegister(t, "samples", end, api.Register{Samples: slices.Repeat([]api.Sample{{Mix: 1}}, 19)})
}

// TestP12_2_ropes: ropes of any length, no more than MaxRopes, and when they are used.
func TestP12_2_ropes(t *testing.T) {
	end := checkDialog(t, "ropes", exampleA(),
		"use 0 = no", "fit 0 = no", "fall 0 1 1 1 = no", "rope 0 = no", "rope 101 = no", "rope -1 = no", "rope 1 = rope 0", "undo = ok", "fit 0 = no", "rope 100 = rope 0", "day 1 = ok", "rope 2 = rope 1", "use 2 = no", "use -1 = no", "fit 2 = no", "fit -1 = no",
		"use 1 = ok", "use 1 = ok", "undo = ok", "fit 1 = sure", "day 2 = ok", "use 1 = ok", "day 3 = ok", "use 1 = ok", "undo = ok", "undo = ok", "fall 1 1 1 1 = no", "redo = ok", "fall 1 1 1 1 = ok",
		"rope 3 = rope 2", "rope 4 = rope 3", "rope 5 = rope 4", "rope 6 = rope 5", "rope 7 = no", "rope 0 = no", "undo = ok", "rope 8 = rope 5")
	checkRegister(t, "ropes", end, api.Register{Day: 2, Ropes: []api.Rope{
		{First: -1, Length: 100}, {Made: 1, First: 2, Length: 2, Falls: []api.Fall{{Day: 2, Height: span(1, 1), Out: span(1, 1)}}},
		{Made: 2, First: -1, Length: 3}, {Made: 2, First: -1, Length: 4}, {Made: 2, First: -1, Length: 5}, {Made: 2, First: -1, Length: 8},
	}})
}

// TestP12_2_age: ropes that are too old, by their first use or since they were made.
func TestP12_2_age(t *testing.T) {
	x := changed(func(x *api.Season) { x.Model.Shelf, x.Model.Use, x.Chain.Nights = 5, 2, 20 })
	checkDialog(t, "age", x,
		"rope 9 = rope 0", "rope 9 = rope 1", "day 1 = ok", "use 0 = ok", "rope 9 = rope 2", "day 3 = ok", "fit 0 = sure", "use 0 = ok", "day 4 = ok", "fit 0 = unfit", "use 0 = unfit", "use 1 = ok", "undo = ok",
		"day 5 = ok", "fit 1 = sure", "use 1 = ok", "undo = ok", "use 2 = ok", "day 6 = ok", "fit 1 = unfit", "use 1 = unfit", "undo = ok", "use 1 = ok", "day 6 = ok", "fit 1 = unfit", "fall 1 1 1 1 = ok", "fit 2 = sure")
}

// TestP12_2_fall: falls of any height and length, of a rope that has been used, and no
// more than MaxFalls.
func TestP12_2_fall(t *testing.T) {
	end := checkDialog(t, "falls", exampleA(), slices.Concat([]string{
		"rope 50 = rope 0", "fall 0 1 1 1 = no", "rope 50 = rope 1", "day 1 = ok", "use 0 = ok", "fall 1 1 1 1 = no", "fall 2 1 1 1 = no", "fall -1 1 1 1 = no",
		"fall 0 0 1 1 = no", "fall 0 2 1 1 = no", "fall 0 1 1001 1 = no", "fall 0 1 1 0 = no", "fall 0 1 1 1001 = no", "fall 0 -1 1 1 = no", "fall 0 1 1 -1 = no", "fall 0 1001 1001 1 = no",
		"fall 0 1 1000 1000 = ok", "fit 0 = sure", "day 2 = ok", "fall 0 1000 1000 1 = ok", "fit 0 = maybe", "undo = ok", "fall 0 1 1 1000 = ok", "fit 0 = sure",
	}, many(8, "fall 0 1 1 1000 = ok"), []string{"fall 0 1 1 1000 = no", "fall 0 0 0 0 = no", "undo = ok", "fall 0 200 200 100 = ok", "fall 0 1 1 1000 = no", "fit 0 = maybe", "use 0 = unfit", "use 1 = ok", "fall 1 1 1 1 = ok"})...)
	falls := append([]api.Fall{{Day: 1, Height: span(1, 1000), Out: span(1000, 1000)}}, slices.Repeat([]api.Fall{{Day: 2, Height: span(1, 1), Out: span(1000, 1000)}}, 8)...)
	falls = append(falls, api.Fall{Day: 2, Height: span(200, 200), Out: span(100, 100)})
	checkRegister(t, "falls", end, api.Register{Day: 2, Ropes: []api.Rope{
		{First: 1, Length: 50, Falls: falls}, {First: 2, Length: 50, Falls: []api.Fall{{Day: 2, Height: span(1, 1), Out: span(1, 1)}}},
	}})
}

// TestP12_2_fit: with the least damage, with the greatest one, and with neither.
func TestP12_2_fit(t *testing.T) {
	checkDialog(t, "fit", exampleA(),
		"rope 9 = rope 0", "fit 0 = sure", "use 0 = ok", "fall 0 80 80 50 = ok", "fall 0 80 80 50 = ok", "fall 0 10 20 50 = ok", "fall 0 10 20 50 = ok", "fit 0 = sure", "fall 0 10 20 50 = ok", "fit 0 = maybe", "use 0 = unfit",
		"fall 0 80 80 50 = ok", "fit 0 = unfit", "use 0 = unfit", "undo = ok", "fit 0 = maybe", "undo = ok", "fit 0 = sure", "use 0 = ok")
}
