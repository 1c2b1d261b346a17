package beds_test

import (
	"math"
	"math/rand"
	"reflect"
	"slices"
	"strings"
	"testing"

	"bivouac/api"
	"bivouac/beds"
)

// calls are all functions of the package, each with its arguments in a common
// form; each returns the other results, and the error.
var calls = []struct {
	name string
	call func(c api.Chain, l []api.Message, a arguments) ([]any, api.Errno)
	// uses tells which of the arguments the function has.
	uses string
}{
	{"Check", func(c api.Chain, l []api.Message, a arguments) ([]any, api.Errno) {
		return nil, beds.Check(c, l)
	}, ""},
	{"Merge", func(c api.Chain, l []api.Message, a arguments) ([]any, api.Errno) {
		all, e := beds.Merge(c, l, a.more)
		return []any{all}, e
	}, ""},
	{"Accepted", func(c api.Chain, l []api.Message, a arguments) ([]any, api.Errno) {
		accepted, e := beds.Accepted(c, l)
		return []any{accepted}, e
	}, ""},
	{"Waiting", func(c api.Chain, l []api.Message, a arguments) ([]any, api.Errno) {
		waiting, e := beds.Waiting(c, l)
		return []any{waiting}, e
	}, ""},
	{"Left", func(c api.Chain, l []api.Message, a arguments) ([]any, api.Errno) {
		left, e := beds.Left(c, l, a.hut, a.night)
		return []any{left}, e
	}, "hut night"},
	{"Allocate", func(c api.Chain, l []api.Message, a arguments) ([]any, api.Errno) {
		held, e := beds.Allocate(c, l)
		return []any{held}, e
	}, ""},
	{"Why", func(c api.Chain, l []api.Message, a arguments) ([]any, api.Errno) {
		hut, night, short, e := beds.Why(c, l, a.id)
		return []any{hut, night, short}, e
	}, "id"},
	{"Release", func(c api.Chain, l []api.Message, a arguments) ([]any, api.Errno) {
		ids, e := beds.Release(c, l, a.id)
		return []any{ids}, e
	}, "id"},
	{"LetIn", func(c api.Chain, l []api.Message, a arguments) ([]any, api.Errno) {
		x, y, z, e := beds.LetIn(c, l, a.hut, a.night, a.people)
		return []any{x, y, z}, e
	}, "hut night people"},
}

type arguments struct {
	hut, night, people, id int
	more                   []api.Message
}

func goodArguments() arguments { return arguments{hut: 0, night: 2, people: 4, id: 3} }

// badChains are changes, each of which makes the chain C invalid.
func badChains() []func(c *api.Chain) {
	return []func(c *api.Chain){
		func(c *api.Chain) { c.Huts = nil },
		func(c *api.Chain) { c.Huts = []api.Hut{} },
		func(c *api.Chain) { c.Huts = slices.Repeat(c.Huts[:1], api.MaxHuts+1) },
		func(c *api.Chain) { c.Huts[1].Beds = -1 },
		func(c *api.Chain) { c.Huts[1].Beds = api.MaxBeds + 1 },
		func(c *api.Chain) { c.Huts[0].Beds = math.MinInt },
		func(c *api.Chain) { c.Huts[1].Emergency = -1 },
		func(c *api.Chain) { c.Huts[1].Emergency = api.MaxBeds + 1 },
		func(c *api.Chain) { c.Huts[0].Emergency = math.MaxInt },
		func(c *api.Chain) { c.Nights = 0 },
		func(c *api.Chain) { c.Nights = -1 },
		func(c *api.Chain) { c.Nights = api.MaxNights + 1 },
		func(c *api.Chain) { c.Nights = math.MaxInt },
	}
}

// badMessages are not valid for the chain C.
func badMessages() []api.Message {
	withStamp, withPeople, withStays := cancel(1), cancel(1), cancel(1)
	withStamp.Stamp, withPeople.People, withStays.Stays = 1, 1, []api.Stay{stay(0, 0, 0)}
	noKind, otherKind, below := request(1, 1, 1, stay(0, 0, 0)), request(1, 1, 1, stay(0, 0, 0)), request(1, 1, 1, stay(0, 0, 0))
	noKind.Kind, otherKind.Kind, below.Kind = 0, 3, -1
	return []api.Message{
		{}, noKind, otherKind, below, withStamp, withPeople, withStays,
		cancel(-1), cancel(api.MaxBooking + 1), cancel(math.MinInt),
		request(-1, 1, 1, stay(0, 0, 0)), request(api.MaxBooking+1, 1, 1, stay(0, 0, 0)), request(math.MaxInt, 1, 1, stay(0, 0, 0)),
		request(1, -1, 1, stay(0, 0, 0)), request(1, api.MaxStamp+1, 1, stay(0, 0, 0)),
		request(1, 1, 0, stay(0, 0, 0)), request(1, 1, -1, stay(0, 0, 0)), request(1, 1, api.MaxBeds+1, stay(0, 0, 0)),
		request(1, 1, 1),
		request(1, 1, 1, stay(-1, 0, 0)), request(1, 1, 1, stay(2, 0, 0)), request(1, 1, 1, stay(math.MaxInt, 0, 0)),
		request(1, 1, 1, stay(0, -1, 0)), request(1, 1, 1, stay(0, 0, 4)), request(1, 1, 1, stay(0, 4, 4)),
		request(1, 1, 1, stay(0, 2, 1)), request(1, 1, 1, stay(0, math.MinInt, math.MaxInt)),
		request(1, 1, 1, stay(0, 0, 1), stay(1, 1, 2)), request(1, 1, 1, stay(0, 2, 2), stay(0, 0, 1)),
		request(1, 1, 1, stay(0, 0, math.MaxInt), stay(0, 1, 1)), request(1, 1, 1, stay(0, 0, 0), stay(2, 1, 1)),
		request(1, 1, 1, stay(0, 1, 0), stay(0, 2, 2)), request(1, 1, 1, stay(0, 0, 0), stay(0, 1, 4)),
	}
}

// clashing returns the messages L with one that clashes with the first of them.
func clashing() []api.Message { return append(exampleMessages(), request(5, 11, 1, stay(0, 0, 0))) }

// TestP2_1_Check: valid chains and messages at all limits.
func TestP2_1_Check(t *testing.T) {
	whole := api.Chain{Huts: slices.Repeat([]api.Hut{{Beds: api.MaxBeds, Emergency: api.MaxBeds}}, api.MaxHuts), Nights: api.MaxNights}
	var six []api.Stay
	for i := range api.MaxStays {
		six = append(six, stay(i, 3*i, 3*i+2))
	}
	six[5].Nights.High = 19
	for i, x := range []struct {
		c api.Chain
		l []api.Message
	}{
		{exampleChain(), exampleMessages()}, {exampleChain(), nil}, {exampleChain(), []api.Message{}},
		{oneHut(0, 1), nil}, {oneHut(0, 1), []api.Message{request(0, 0, api.MaxBeds, stay(0, 0, 0))}},
		{whole, []api.Message{request(api.MaxBooking, api.MaxStamp, api.MaxBeds, six...), request(0, 0, 1, stay(5, 0, 19))}},
		{whole, slices.Repeat([]api.Message{request(1, 1, 1, six...)}, api.MaxMessages)},
		{exampleChain(), []api.Message{cancel(0), cancel(api.MaxBooking), {Kind: api.Cancel, Id: 7, Stays: []api.Stay{}}}},
		{exampleChain(), append(exampleMessages(), exampleMessages()...)},
		{exampleChain(), append(exampleMessages(), cancel(5), cancel(5))},
		{exampleChain(), []api.Message{request(1, 1, 1, stay(1, 0, 0), stay(1, 1, 1), stay(0, 3, 3))}},
	} {
		if e := beds.Check(x.c, x.l); e != api.OK {
			t.Errorf("%d: Check: %d", i, e)
		}
	}
}

// TestP2_1_stays: a request must not have more than MaxStays stays.
func TestP2_1_stays(t *testing.T) {
	var stays []api.Stay
	for i := range api.MaxStays + 1 {
		if e := beds.Check(oneHut(1, 20), []api.Message{request(1, 1, 1, stays...)}); (e == api.OK) != (i > 0) {
			t.Errorf("Check of %d stays: %d", i, e)
		}
		stays = append(stays, stay(0, 2*i, 2*i))
	}
	if e := beds.Check(oneHut(1, 20), []api.Message{request(1, 1, 1, stays...)}); e != api.ErrMessages {
		t.Errorf("Check of too many stays: %d", e)
	}
}

// TestP2_1_clash: requests with the same Id must not differ in anything.
func TestP2_1_clash(t *testing.T) {
	first := request(5, 10, 2, stay(0, 0, 1), stay(1, 2, 2))
	for i, m := range []api.Message{
		request(5, 11, 2, stay(0, 0, 1), stay(1, 2, 2)),
		request(5, 10, 1, stay(0, 0, 1), stay(1, 2, 2)),
		request(5, 10, 2, stay(1, 0, 1), stay(1, 2, 2)),
		request(5, 10, 2, stay(0, 1, 1), stay(1, 2, 2)),
		request(5, 10, 2, stay(0, 0, 1), stay(1, 2, 3)),
		request(5, 10, 2, stay(0, 0, 1)),
	} {
		for _, l := range [][]api.Message{{first, m}, {m, first}, {first, cancel(5), m}, {first, first, m, m}} {
			if e := beds.Check(exampleChain(), l); e != api.ErrClash {
				t.Errorf("%d: Check of %v: %d", i, l, e)
			}
		}
	}
	if e := beds.Check(exampleChain(), []api.Message{first, request(6, 10, 2, stay(0, 0, 1), stay(1, 2, 2))}); e != api.OK {
		t.Errorf("Check of requests that differ in the Id: %d", e)
	}
}

// TestP1_errors: each function returns the first of several errors, and then
// all its other results are zero. This is P2.1, too.
func TestP1_errors(t *testing.T) {
	wrong := arguments{hut: 2, night: -1, people: -1, id: 100, more: clashing()}
	check := func(name string, i int, results []any, e, want api.Errno) {
		t.Helper()
		if e != want || want != api.OK && !isZero(results) {
			t.Errorf("%s %d: %v, %d, want %d", name, i, results, e, want)
		}
	}
	for _, f := range calls {
		results, e := f.call(exampleChain(), exampleMessages(), goodArguments())
		check(f.name, 0, results, e, api.OK)
		for i, change := range badChains() {
			c := exampleChain()
			change(&c)
			results, e := f.call(c, append(clashing(), badMessages()...), wrong)
			check(f.name, i, results, e, api.ErrChain)
		}
		for i, m := range badMessages() {
			for _, l := range [][]api.Message{{m}, append(clashing(), m), append([]api.Message{m}, clashing()...)} {
				results, e := f.call(exampleChain(), l, wrong)
				check(f.name, i, results, e, api.ErrMessages)
			}
		}
		many := slices.Repeat(exampleMessages()[:1], api.MaxMessages+1)
		results, e = f.call(exampleChain(), many, wrong)
		check(f.name, 0, results, e, api.ErrMessages)
		results, e = f.call(exampleChain(), slices.Repeat(clashing(), api.MaxMessages/5), wrong)
		check(f.name, 0, results, e, api.ErrClash)
		if strings.Contains(f.uses, "hut") {
			results, e = f.call(exampleChain(), exampleMessages(), wrong)
			check(f.name, 0, results, e, api.ErrArg)
		}
	}
}

// TestP1_arguments: each number that is not of the chain, or not as told.
func TestP1_arguments(t *testing.T) {
	outside := map[string][]int{
		"hut":    {-1, 2, math.MinInt, math.MaxInt},
		"night":  {-1, 4, math.MinInt, math.MaxInt},
		"people": {-1, api.MaxPeople + 1, math.MinInt, math.MaxInt},
		"id":     {-1, api.MaxBooking + 1, math.MinInt, math.MaxInt, 5, 9, 4},
	}
	for _, f := range calls {
		for name, values := range outside {
			if !slices.Contains(strings.Fields(f.uses), name) {
				continue
			}
			for _, x := range values {
				a, want := goodArguments(), api.ErrArg
				switch name {
				case "hut":
					a.hut = x
				case "night":
					a.night = x
				case "people":
					a.people = x
				case "id":
					a.id, want = x, api.ErrNone
				}
				if results, e := f.call(exampleChain(), exampleMessages(), a); e != want || !isZero(results) {
					t.Errorf("%s with %s %d: %v, %d", f.name, name, x, results, e)
				}
			}
		}
	}
}

// TestP1_memory: no argument is changed, and no result shares memory with one.
func TestP1_memory(t *testing.T) {
	more := []api.Message{request(7, 3, 1, stay(1, 0, 0)), cancel(5)}
	for _, f := range calls {
		c, l, a := exampleChain(), exampleMessages(), goodArguments()
		a.more = copyMessages(more)
		results, _ := f.call(c, l, a)
		for _, x := range results {
			spoil(x)
		}
		if !reflect.DeepEqual(c, exampleChain()) || !reflect.DeepEqual(l, exampleMessages()) || !reflect.DeepEqual(a.more, more) {
			t.Errorf("%s changes an argument: %v, %v, %v", f.name, c, l, a.more)
		}
	}
}

// spoil overwrites the elements of a result.
func spoil(x any) {
	switch l := x.(type) {
	case []int:
		for i := range l {
			l[i] = -7
		}
	case []api.Message:
		for i := range l {
			for k := range l[i].Stays {
				l[i].Stays[k] = api.Stay{Hut: -7}
			}
			l[i] = api.Message{}
		}
	case []api.Held:
		for i := range l {
			for k := range l[i].Beds {
				l[i].Beds[k] = -7
			}
			l[i] = api.Held{}
		}
	}
}

// TestP1_any: no function panics, and each terminates, for wild arguments.
func TestP1_any(t *testing.T) {
	r := rand.New(rand.NewSource(1))
	values := []int{math.MinInt, -1, 0, 0, 1, 1, 1, 2, 2, 3, 20, 21, 99, 100, math.MaxInt}
	any := func() int { return values[r.Intn(len(values))] }
	few := func() int { return r.Intn(4) }
	for range 3000 {
		number := few
		if r.Intn(2) == 0 {
			number = any
		}
		c := api.Chain{Nights: number()}
		for range r.Intn(4) {
			c.Huts = append(c.Huts, api.Hut{Beds: number(), Emergency: number()})
		}
		var l []api.Message
		for range r.Intn(6) {
			m := api.Message{Kind: number(), Id: number(), Stamp: number(), People: number()}
			for range r.Intn(3) {
				m.Stays = append(m.Stays, stay(number(), number(), number()))
			}
			l = append(l, m)
		}
		for _, f := range calls {
			f.call(c, l, arguments{number(), number(), number(), number(), l})
		}
	}
}
