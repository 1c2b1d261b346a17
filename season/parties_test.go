package season_test

import (
	"slices"
	"testing"

	"bivouac/api"
)

// gone is a party that went out in the season A, at the place 0 at the minute 0, and
// rests nowhere.
func gone(id, grade int, back bool, clues ...api.Clue) api.Gone {
	party := api.Party{Grade: grade, Pace: span(100, 100)}
	return api.Gone{Id: id, Missed: api.Missed{Party: party, Clues: clues}, Back: back}
}

// TestP12_2_go: parties whose numbers are at their limits, and outside of them.
func TestP12_2_go(t *testing.T) {
	end := checkDialog(t, "go", exampleA(),
		"go 100 0 3 0 0 = no", "go -1 0 3 0 0 = no", "go 1 4 3 0 0 = no", "go 1 -1 3 0 0 = no", "go 1 0 0 0 0 = no", "go 1 0 7 0 0 = no", "go 1 0 3 -1 0 = no", "go 1 0 3 2881 0 = no", "go 1 0 3 0 -1 = no", "go 1 0 3 0 601 = no",
		"go 0 0 1 0 0 = ok", "go 0 0 1 0 0 = no", "go 0 1 2 0 0 = no", "go 99 3 6 2880 600 = ok", "undo = ok", "go 99 3 5 2880 600 = ok", "back 0 = ok", "go 0 0 2 0 0 = ok", "go 0 0 2 0 0 = no")
	late := api.Missed{Party: api.Party{Grade: 5, Pace: span(100, 100)}, Place: 3, Start: 2880, Now: 2880, Rest: 600}
	checkRegister(t, "go", end, api.Register{Gone: []api.Gone{gone(0, 1, true), {Id: 99, Missed: late}, gone(0, 2, false)}})
}

// TestP12_2_gone: no more than MaxGone parties, also if some are back.
func TestP12_2_gone(t *testing.T) {
	end := checkDialog(t, "gone", exampleA(),
		"go 1 0 1 0 0 = ok", "go 2 0 1 0 0 = ok", "go 3 0 1 0 0 = ok", "back 2 = ok", "go 4 0 1 0 0 = ok", "go 5 0 1 0 0 = ok", "go 2 0 2 0 0 = ok", "go 7 0 1 0 0 = no", "back 1 = ok", "go 1 0 1 0 0 = no", "back 2 = ok", "back 2 = no", "go 7 0 1 0 0 = no",
		"undo = ok", "undo = ok", "undo = ok", "go 2 0 1 0 0 = ok", "go 8 0 1 0 0 = no", "where 2 0 = 0 -")
	checkRegister(t, "gone", end, api.Register{Gone: []api.Gone{
		gone(1, 1, false), gone(2, 1, true), gone(3, 1, false), gone(4, 1, false), gone(5, 1, false), gone(2, 1, false),
	}})
}

// TestP12_2_out: just of a party that is out there are clues; of two with the same Id it
// is the one that is not back.
func TestP12_2_out(t *testing.T) {
	end := checkDialog(t, "out", exampleA(),
		"seen 1 10 0 = no", "unseen 1 10 0 = no", "back 1 = no", "where 1 10 = no", "go 1 0 3 0 0 = ok", "seen 2 10 0 = no", "back 2 = no", "where 2 10 = no", "seen 1 10 0 = ok", "back 1 = ok", "back 1 = no", "seen 1 10 0 = no", "unseen 1 10 0 = no", "where 1 10 = no",
		"go 1 0 2 0 0 = ok", "unseen 1 20 2 = ok", "where 1 20 = 0 - 0 3", "go 2 0 1 0 0 = ok", "seen 2 0 1 = ok", "where 2 0 = against 0", "back 1 = ok", "where 1 20 = no", "where 2 0 = against 0", "undo = ok", "where 1 20 = 0 - 0 3")
	checkRegister(t, "out", end, api.Register{Gone: []api.Gone{
		gone(1, 3, true, api.Clue{Minute: 10, Places: 1, Seen: true}), gone(1, 2, false, api.Clue{Minute: 20, Places: 4}), gone(2, 1, false, api.Clue{Places: 2, Seen: true}),
	}})
}

// TestP12_2_seen: clues whose numbers are at their limits, and outside of them; no more
// than MaxClues.
func TestP12_2_seen(t *testing.T) {
	for _, word := range []string{"seen", "unseen"} {
		end := checkDialog(t, word, exampleA(), slices.Concat([]string{
			"go 1 0 3 100 0 = ok", word + " 1 99 0 = no", word + " 1 2881 0 = no", word + " 1 -1 0 = no", word + " 1 100 4 = no", word + " 1 100 -1 = no", word + " 1 100 63 = no", word + " 1 100 64 = no", word + " 1 100 65 = no", word + " 1 100 99999 = no", word + " 1 100 -99999 = no", word + " -1 100 0 = no",
			word + " 1 2880 3 = ok", word + " 1 100 0 = ok", word + " 1 100 0 = ok", word + " 1 101 1 = ok",
		}, many(8, word+" 1 102 2 = ok"), []string{word + " 1 102 2 = no", "seen 1 102 2 = no", "unseen 1 102 2 = no", "undo = ok", word + " 1 103 3 = ok", "unseen 1 102 2 = no"})...)
		isSeen := word == "seen"
		clues := []api.Clue{{Minute: 2880, Places: 8, Seen: isSeen}, {Minute: 100, Places: 1, Seen: isSeen}, {Minute: 100, Places: 1, Seen: isSeen}, {Minute: 101, Places: 2, Seen: isSeen}}
		clues = append(clues, slices.Repeat([]api.Clue{{Minute: 102, Places: 4, Seen: isSeen}}, 7)...)
		want := gone(1, 3, false, append(clues, api.Clue{Minute: 103, Places: 8, Seen: isSeen})...)
		want.Missed.Start, want.Missed.Now = 100, 100
		checkRegister(t, word, end, api.Register{Gone: []api.Gone{want}})
	}
}

// TestP12_2_where: at minutes at their limits, before and after clues; without places,
// without paths, and against clues. It is no change, and leaves Now as it is.
func TestP12_2_where(t *testing.T) {
	end := checkDialog(t, "where", exampleA(),
		"go 1 0 3 100 0 = ok", "where 1 99 = no", "where 1 2881 = no", "where 1 -1 = no", "where -1 100 = no", "where 1 100 = 0 -", "where 1 101 = 0 - 0 3", "where 1 199 = 0 - 0 3", "where 1 200 = 0 1 - 0 3", "where 1 300 = 0 1 2 - 0 1 2 3", "where 1 2880 = 0 1 2 3 - 0 1 2 3 4",
		"unseen 1 150 0 = ok", "where 1 149 = no", "where 1 150 = - 0 3", "where 1 200 = 1 - 0 3", "seen 1 400 1 = ok", "where 1 399 = no", "where 1 400 = 1 -", "seen 1 150 3 = ok", "where 1 399 = no", "where 1 400 = against 2", "where 1 2880 = against 2",
		"undo = ok", "where 1 400 = 1 -", "unseen 1 300 1 = ok", "where 1 400 = against 1 2", "undo = ok", "undo = ok", "undo = ok", "undo = ok", "undo = no")
	checkRegister(t, "where", end, api.Register{})
	// paths 0 and 2 do not open, which does not matter
	closed := changed(func(x *api.Season) { x.Net.Paths[0].Opens, x.Net.Paths[2].Opens = nil, nil })
	checkDialog(t, "closed paths", closed, "go 1 0 3 100 0 = ok", "where 1 200 = 0 1 - 0 3")
	alone := changed(func(x *api.Season) { x.Net = api.Net{Places: 1} })
	checkDialog(t, "one place", alone, "go 1 0 3 100 0 = ok", "where 1 100 = 0 -", "where 1 2880 = 0 -", "unseen 1 2880 0 = ok", "where 1 2880 = against 0", "where 1 2879 = no")
}

// TestP12_2_undo: a change after an undo cannot be redone, but a line that is no change
// leaves what can be.
func TestP12_2_undo(t *testing.T) {
	end := checkDialog(t, "undo", exampleA(),
		"undo = no", "redo = no", "rope 1 = rope 0", "day 1 = ok", "go 1 0 3 0 0 = ok", "sample 1 0 = ok", "cancel 3 = ok", "redo = no", "undo = ok", "undo = ok", "undo = ok", "undo = ok",
		"redo = ok", "redo = ok", "accepted = none", "day 0 = no", "day 1 = ok", "x = ?", "use 1 = no", "where 1 5 = 0 - 0 3", "redo = ok", "redo = ok", "redo = no", "undo = ok", "use 0 = ok", "redo = no", "use 0 = ok", "undo = ok", "use 0 = ok", "redo = no", "undo = ok", "use 1 = no", "redo = ok", "redo = no",
		"undo = ok", "undo = ok", "undo = ok", "undo = ok", "undo = ok", "undo = no", "undo = no", "redo = ok", "redo = ok", "redo = ok", "fall 0 1 1 1 = no", "redo = ok")
	checkRegister(t, "undo", end, api.Register{Day: 1, Samples: []api.Sample{{Mix: 1}}, Ropes: []api.Rope{{First: -1, Length: 1}}, Gone: []api.Gone{gone(1, 3, false)}})
}

// TestP12_2_branches: what was undone does not come back with other changes of the same
// slices.
func TestP12_2_branches(t *testing.T) {
	end := checkDialog(t, "branches", exampleA(),
		"cancel 1 = ok", "cancel 2 = ok", "cancel 3 = ok", "undo = ok", "cancel 4 = ok", "undo = ok", "redo = ok", "undo = ok", "undo = ok", "cancel 5 = ok", "cancel 6 = ok", "undo = ok",
		"rope 1 = rope 0", "use 0 = ok", "fall 0 1 1 1 = ok", "fall 0 2 2 2 = ok", "undo = ok", "fall 0 3 3 3 = ok", "undo = ok", "undo = ok", "fall 0 4 4 4 = ok", "fall 0 5 5 5 = ok", "undo = ok",
		"go 1 0 3 0 0 = ok", "seen 1 1 0 = ok", "seen 1 2 0 = ok", "undo = ok", "seen 1 3 0 = ok", "undo = ok", "undo = ok", "seen 1 4 0 = ok", "back 1 = ok", "undo = ok")
	fall := api.Fall{Height: span(4, 4), Out: span(4, 4)}
	checkRegister(t, "branches", end, api.Register{
		Messages: []api.Message{cancel(1), cancel(5)}, Ropes: []api.Rope{{Length: 1, Falls: []api.Fall{fall}}}, Gone: []api.Gone{gone(1, 3, false, api.Clue{Minute: 4, Places: 1, Seen: true})},
	})
}
