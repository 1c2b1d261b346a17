package season_test

import (
	"math"
	"math/rand"
	"reflect"
	"slices"
	"strings"
	"testing"

	"bivouac/api"
	"bivouac/season"
)

// checkSeason checks a season, and runs scripts with it; too many lines are an error just
// if there is no other one.
func checkSeason(t *testing.T, what string, x api.Season, want api.Errno) {
	t.Helper()
	if e := season.Check(x); e != want {
		t.Errorf("%s: Check: %d, want %d", what, e, want)
	}
	for _, script := range [][]string{nil, {"accepted", "go 1 0 3 0 0"}, many(80, "x"), many(81, "accepted"), many(500, "")} {
		wantRun := want
		if want == api.OK && len(script) > 80 {
			wantRun = api.ErrMany
		}
		answers, end, e := season.Run(x, script)
		if e != wantRun || e == api.OK && len(answers) != len(script) || e != api.OK && (len(answers) > 0 || !reflect.DeepEqual(end, api.Register{})) {
			t.Errorf("%s: Run of %d lines: %q, %+v, %d, want %d", what, len(script), answers, end, e, wantRun)
		}
	}
}

// TestP12_1_Check: seasons with a part that is not valid, also with others.
func TestP12_1_Check(t *testing.T) {
	checkSeason(t, "the example", exampleA(), api.OK)
	checkSeason(t, "nothing", api.Season{}, api.ErrSeason)
	for i, change := range []func(x *api.Season){
		func(x *api.Season) { x.Net = api.Net{} }, func(x *api.Season) { x.Net.Places = 13 }, func(x *api.Season) { x.Net.Places = 3 }, func(x *api.Season) { x.Net.Paths[2].Time.Low = 0 }, func(x *api.Season) { x.Net.Paths[0].Grade = 7 },
		func(x *api.Season) { x.Net.Paths = slices.Repeat(x.Net.Paths, 5) }, func(x *api.Season) { x.Net.Paths[4].Opens = slices.Repeat(always(), 7) },
		func(x *api.Season) { x.Chain = api.Chain{} }, func(x *api.Season) { x.Chain.Nights = 0 }, func(x *api.Season) { x.Chain.Nights = 21 }, func(x *api.Season) { x.Chain.Huts[1].Beds = 21 }, func(x *api.Season) { x.Chain.Huts[0].Emergency = -1 }, func(x *api.Season) { x.Chain.Huts = slices.Repeat(x.Chain.Huts, 4) },
		func(x *api.Season) { x.Water = api.Water{} }, func(x *api.Season) { x.Water.Most = 9 }, func(x *api.Season) { x.Water.Misses = 5 }, func(x *api.Season) { x.Water.Alarms = -1 }, func(x *api.Season) { x.Water.Springs = slices.Repeat(x.Water.Springs, 3) }, func(x *api.Season) { x.Water.Springs[2].Fuel = 1001 },
		func(x *api.Season) { x.Water.Samples = []api.Sample{{Mix: 1}} }, func(x *api.Season) { x.Water.Samples = []api.Sample{{}} }, func(x *api.Season) { x.Water.Samples = slices.Repeat([]api.Sample{{Mix: 7}}, 20) }, func(x *api.Season) { x.Water.Samples = slices.Repeat([]api.Sample{{Mix: 7}}, 21) },
		func(x *api.Season) { x.Model = api.Model{} }, func(x *api.Season) { x.Model.Shelf = 0 }, func(x *api.Season) { x.Model.Shelf = 10001 }, func(x *api.Season) { x.Model.Use = 0 }, func(x *api.Season) { x.Model.Use = 10001 }, func(x *api.Season) { x.Model.Bears = -1 }, func(x *api.Season) { x.Model.Bears = 101 },
		func(x *api.Season) { x.Model.Wears[0].Factor = 0 }, func(x *api.Season) { x.Model.Wears[2].Factor = 201 }, func(x *api.Season) { x.Model.Wears[1].Factor = 30 }, func(x *api.Season) { x.Model.Wears[1].Damage = 0 }, func(x *api.Season) { x.Model.Wears[0].Damage = -1 }, func(x *api.Season) { x.Model.Wears[2].Damage = 101 }, func(x *api.Season) { x.Model.Wears = make([]api.Wear, 7) },
	} {
		checkSeason(t, "the change "+string(rune('A'+i)), changed(change), api.ErrSeason)
	}
	for i, change := range []func(x *api.Season){
		func(x *api.Season) { x.Net = api.Net{Places: 1} }, func(x *api.Season) { x.Net.Places = 12 }, func(x *api.Season) { x.Net.Paths[0].Opens = nil }, func(x *api.Season) { x.Chain.Nights = 20 }, func(x *api.Season) { x.Chain.Huts = slices.Repeat(x.Chain.Huts, 3) }, func(x *api.Season) { x.Water.Samples = []api.Sample{} },
		func(x *api.Season) { x.Water.Most, x.Water.Misses, x.Water.Alarms = 8, 4, 4 }, func(x *api.Season) { x.Model = api.Model{Shelf: 1, Use: 1} }, func(x *api.Season) { x.Model.Shelf, x.Model.Use, x.Model.Bears = 10000, 10000, 100 }, func(x *api.Season) { x.Model.Wears[2] = api.Wear{Factor: 200, Damage: 100} }, func(x *api.Season) { x.Model.Wears[0] = api.Wear{Factor: 1} },
	} {
		checkSeason(t, "the limit "+string(rune('A'+i)), changed(change), api.OK)
	}
}

// TestP12_2_many: scripts of as many lines as there may be, and of more.
func TestP12_2_many(t *testing.T) {
	for _, count := range []int{79, 80} {
		answers, end := run(t, exampleA(), append(many(count-1, "x"), "rope 1"))
		if answers[count-1] != "rope 0" || len(end.Ropes) != 1 {
			t.Errorf("%d lines: %q, %+v", count, answers, end)
		}
	}
	for _, count := range []int{81, 82, 1000} {
		if answers, end, e := season.Run(exampleA(), many(count, "rope 1")); len(answers) > 0 || !reflect.DeepEqual(end, api.Register{}) || e != api.ErrMany {
			t.Errorf("%d lines: %q, %+v, %d", count, answers, end, e)
		}
	}
}

// TestP1_any: no function panics, and each terminates, for wild arguments. The results
// are zero with an error.
func TestP1_any(t *testing.T) {
	r := rand.New(rand.NewSource(1))
	values := []int{math.MinInt, -100000, -51, -2, -1, 0, 0, 1, 1, 2, 3, 5, 6, 7, 12, 20, 31, 40, 64, 99, 100, 101, 600, 1000, 2880, 10000, 10001, math.MaxInt}
	codes := map[api.Errno]int{}
	for range 3000 {
		x := pickSeason(r)
		script := pickScript(r, x, 40)
		for range r.Intn(3) {
			fields := []*int{&x.Net.Places, &x.Chain.Nights, &x.Chain.Huts[0].Beds, &x.Chain.Huts[0].Emergency, &x.Water.Most, &x.Water.Misses, &x.Water.Alarms, &x.Water.Springs[0].Fuel, &x.Water.Springs[0].Yield.High, &x.Model.Shelf, &x.Model.Use, &x.Model.Bears}
			for i := range x.Net.Paths {
				fields = append(fields, &x.Net.Paths[i].From, &x.Net.Paths[i].Time.High, &x.Net.Paths[i].Grade)
			}
			*fields[r.Intn(len(fields))] = values[r.Intn(len(values))]
		}
		if r.Intn(10) == 0 {
			script = slices.Repeat(append(script, "x"), 81)
		}
		want := season.Check(x)
		if want == api.OK && len(script) > 80 {
			want = api.ErrMany
		}
		answers, end, e := season.Run(x, script)
		if e != want || e != api.OK && (len(answers) > 0 || !reflect.DeepEqual(end, api.Register{})) {
			t.Fatalf("Run of %q with %+v: %q, %+v, %d, want %d", script, x, answers, end, e, want)
		}
		codes[e]++
	}
	if min(codes[api.OK], codes[api.ErrSeason], codes[api.ErrMany]) < 100 {
		t.Errorf("just so many cases of each kind: %v", codes)
	}
}

// TestP1_bytes: lines, scripts and texts of any bytes.
func TestP1_bytes(t *testing.T) {
	r := rand.New(rand.NewSource(2))
	for range 2000 {
		var script []string
		for range r.Intn(8) {
			line := make([]byte, r.Intn(10))
			r.Read(line)
			script = append(script, string(line))
		}
		answers, end := run(t, exampleA(), script)
		checkRegister(t, "any bytes", end, api.Register{})
		if slices.ContainsFunc(answers, func(answer string) bool { return answer != "?" }) {
			t.Errorf("%q: %q", script, answers)
		}
		text, e := season.Write(script)
		if e == api.ErrScript && text != "" || e == api.OK && text != fileBy(script) || e != api.OK && e != api.ErrScript {
			t.Errorf("Write of %q = %q, %d", script, text, e)
		}
		some := strings.Join(script, "\n")
		if got, at, e := season.Read(some); e != api.ErrFile || len(got) > 0 || at != readBy(some) {
			t.Errorf("Read of %q = %q, %d, %d", some, got, at, e)
		}
	}
	for _, line := range []string{strings.Repeat(" ", 1000000), "day " + strings.Repeat("1", 1000000), "book" + strings.Repeat(" 1", 500000), strings.Repeat("day", 300000)} {
		if answers, _ := run(t, exampleA(), []string{line}); answers[0] != "?" {
			t.Errorf("a long line: %q", answers)
		}
		if _, at, e := season.Read(line); at != 0 || e != api.ErrFile {
			t.Errorf("Read of a long text: %d, %d", at, e)
		}
		if _, at, e := season.Read("60 " + line); at != 63 || e != api.ErrFile {
			t.Errorf("Read of a long line: %d, %d", at, e)
		}
	}
}

// spoil writes into all memory of a register.
func spoil(r *api.Register) {
	for i := range r.Messages {
		for j := range r.Messages[i].Stays {
			r.Messages[i].Stays[j].Hut = -7
		}
		r.Messages[i].Id = -7
	}
	for i := range r.Samples {
		r.Samples[i].Mix = -7
	}
	for i := range r.Ropes {
		for j := range r.Ropes[i].Falls {
			r.Ropes[i].Falls[j].Day = -7
		}
		r.Ropes[i].Made = -7
	}
	for i := range r.Gone {
		for j := range r.Gone[i].Missed.Clues {
			r.Gone[i].Missed.Clues[j].Minute = -7
		}
		r.Gone[i].Id = -7
	}
}

// isApart reports whether no two of some lists share memory, also not behind their ends.
func isApart[T any](lists [][]T) bool {
	known := map[*T]bool{}
	for _, list := range lists {
		list = list[:cap(list)]
		for i := range list {
			if known[&list[i]] {
				return false
			}
			known[&list[i]] = true
		}
	}
	return true
}

// TestP1_memory: no argument is changed, no result shares memory with one, or with
// another slice of it, and nothing is kept.
func TestP1_memory(t *testing.T) {
	eachScript(t, 3, 300, api.MaxScript, func(r *rand.Rand, x api.Season, script []string) {
		lines := slices.Clone(script)
		var stays [][]api.Stay
		var falls [][]api.Fall
		var clues [][]api.Clue
		answers, end := run(t, x, script)
		for _, m := range end.Messages {
			stays = append(stays, m.Stays)
		}
		for _, r := range end.Ropes {
			falls = append(falls, r.Falls)
		}
		for _, g := range end.Gone {
			clues = append(clues, g.Missed.Clues)
		}
		if !isApart(stays) || !isApart(falls) || !isApart(clues) {
			t.Errorf("two slices of %+v share memory", end)
		}
		_, want := run(t, x, lines)
		spoil(&end)
		first := slices.Clone(answers)
		clear(answers)
		again, end2 := run(t, x, script)
		if !slices.Equal(script, lines) || !slices.Equal(again, first) {
			t.Errorf("Run of %q changes it, or keeps something: %q, %q", lines, first, again)
		}
		checkRegister(t, "once more", end2, want)
	})
	x, script := exampleA(), linesOf(exampleScript())
	_, end := run(t, x, script)
	spoil(&end)
	text, _ := season.Write(script)
	again, _, _ := season.Read(text)
	clear(again)
	if !reflect.DeepEqual(x, exampleA()) || !slices.Equal(script, linesOf(exampleScript())) {
		t.Errorf("an argument is changed: %+v, %q", x, script)
	}
}

// TestP1_capacity: what lies behind the end of a slice is neither read nor changed; nil
// and empty slices are the same.
func TestP1_capacity(t *testing.T) {
	x, script := exampleA(), linesOf(exampleScript())
	x.Water.Samples = []api.Sample{{Mix: -1}}[:0]
	x.Water.Springs = append(x.Water.Springs, api.Spring{Fuel: -1})[:3]
	x.Chain.Huts = append(x.Chain.Huts, api.Hut{Beds: -1})[:2]
	x.Net.Paths = append(x.Net.Paths, api.Path{From: -1})[:5]
	x.Model.Wears = append(x.Model.Wears, api.Wear{Factor: -1})[:3]
	script = append(script, "rope 9", "x")[:len(script)]
	want, end := run(t, exampleA(), linesOf(exampleScript()))
	answers, end2 := run(t, x, script)
	if !slices.Equal(answers, want) {
		t.Errorf("Run: %q, want %q", answers, want)
	}
	checkRegister(t, "capacity", end2, end)
	text, e := season.Write(script)
	if text != fileBy(script) || e != api.OK {
		t.Errorf("Write = %q, %d", text, e)
	}
	if x.Water.Samples[:1][0].Mix != -1 || x.Water.Springs[:4][3].Fuel != -1 || x.Chain.Huts[:3][2].Beds != -1 || x.Net.Paths[:6][5].From != -1 || x.Model.Wears[:4][3].Factor != -1 || script[:len(script)+1][len(script)] != "rope 9" {
		t.Errorf("something behind the end of a slice is changed: %+v", x)
	}
	empty := exampleA()
	empty.Water.Samples, empty.Net.Paths, empty.Model.Wears = []api.Sample{}, []api.Path{}, []api.Wear{}
	none := exampleA()
	none.Net.Paths, none.Model.Wears = nil, nil
	want, end = run(t, none, linesOf(exampleScript()))
	answers, end2 = run(t, empty, linesOf(exampleScript()))
	if !slices.Equal(answers, want) {
		t.Errorf("Run with empty slices: %q, want %q", answers, want)
	}
	checkRegister(t, "empty slices", end2, end)
}
