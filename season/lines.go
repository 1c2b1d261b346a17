package season

import (
	"strconv"
	"strings"

	"bivouac/beds"
)

// Answers that do not depend on what a line is about.
const (
	done    = "ok"
	refused = "no"
	unknown = "?"
	nothing = "none"
	against = "against"
)

// form is a form of lines: how many numbers follow the word, and what answers them.
type form struct {
	numbers int
	answer  func(w *warden, n []int) string
}

// forms returns the forms of lines by their words.
func forms() map[string]form {
	return map[string]form{
		"day":      {1, (*warden).day},
		"book":     {6, (*warden).book},
		"cancel":   {1, (*warden).cancel},
		"accepted": {0, listing(beds.Accepted)},
		"waiting":  {0, listing(beds.Waiting)},
		"beds":     {2, (*warden).left},
		"letin":    {2, (*warden).letIn},
		"sample":   {2, (*warden).sample},
		"clean":    {0, (*warden).clean},
		"serve":    {1, (*warden).serve},
		"rope":     {1, (*warden).rope},
		"use":      {1, (*warden).use},
		"fall":     {4, (*warden).fall},
		"fit":      {1, (*warden).fit},
		"go":       {5, (*warden).goOut},
		"seen":     {3, sighting(true)},
		"unseen":   {3, sighting(false)},
		"back":     {1, (*warden).back},
		"where":    {2, (*warden).where},
		"undo":     {0, (*warden).undo},
		"redo":     {0, (*warden).redo},
	}
}

// answer answers a line.
func (w *warden) answer(line string) string {
	word, _, _ := strings.Cut(line, " ")
	f, ok := forms()[word]
	if !ok || strings.Count(line, " ") != f.numbers {
		return unknown
	}
	var n []int
	for _, text := range strings.Split(line, " ")[1:] {
		x, ok := number(text)
		if !ok {
			return unknown
		}
		n = append(n, x)
	}
	return f.answer(w, n)
}

// number reads a number, and reports whether a text is one.
func number(text string) (int, bool) {
	const mostDigits = 5
	digits := strings.TrimPrefix(text, "-")
	isLong := len(digits) > mostDigits
	if digits == "" || isLong || digits[0] == '0' && text != "0" {
		return 0, false
	}
	x := 0
	for _, r := range digits {
		if r < '0' || r > '9' {
			return 0, false
		}
		x = 10*x + int(r-'0')
	}
	if digits != text {
		x = -x
	}
	return x, true
}

// say puts words, numbers and lists of numbers together, with blanks between them.
func say(parts ...any) string {
	var words []string
	for _, part := range parts {
		switch x := part.(type) {
		case string:
			words = append(words, x)
		case int:
			words = append(words, strconv.Itoa(x))
		case []int:
			for _, number := range x {
				words = append(words, strconv.Itoa(number))
			}
		}
	}
	return strings.Join(words, " ")
}
