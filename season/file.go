package season

import (
	"strings"

	"bivouac/api"
)

// entry returns what a file has for a line.
func entry(line string) string { return say(len(line), line) + "\n" }

// ending returns the last line of a file in which some lines stand before it.
func ending(before string, lines int) string { return say("end", lines, checksum(before)) + "\n" }

func checksum(text string) int {
	const first, factor, modulus = 7, 31, 65521
	sum := first
	for i := range len(text) {
		sum = (factor*sum + int(text[i])) % modulus
	}
	return sum
}

func canBeWritten(line string) bool {
	for i := range len(line) {
		if !isPlain(line[i]) {
			return false
		}
	}
	return len(line) <= api.MaxBytes
}

// isPlain reports whether a line that can be written may have a byte.
func isPlain(b byte) bool { return 32 <= b && b <= 126 }

// scan reads a text as a file.
type scan struct {
	text   string
	at     int      // how many bytes have been read; some file begins with them
	script []string // the lines that have been read
}

func (s *scan) seen() string { return s.text[:s.at] }

func (s *scan) rest() string { return s.text[s.at:] }

// isAtEnding reports whether what comes next can only be the last line.
func (s *scan) isAtEnding() bool { return common(s.rest(), "end") > 0 }

// line reads a line of the script, and reports whether it could. There is a file with
// what it has read: any line can be completed, and what comes behind it can be the end.
func (s *scan) line() bool {
	length, ok := s.head()
	if !ok {
		return false
	}
	start := s.at
	for range length {
		if s.rest() == "" || !isPlain(s.text[s.at]) {
			return false
		}
		s.at++
	}
	line := s.text[start:s.at]
	if !s.expect("\n") {
		return false
	}
	s.script = append(s.script, line)
	return true
}

// head reads the length of a line, with the blank behind it. None of these begins with
// another one.
func (s *scan) head() (int, bool) {
	most := 0
	for length := range api.MaxBytes + 1 {
		head := say(length, "")
		if strings.HasPrefix(s.rest(), head) {
			s.at += len(head)
			return length, true
		}
		most = max(most, common(s.rest(), head))
	}
	s.at += most
	return 0, false
}

// expect reads as much as the rest has in common with what must come next, and reports
// whether that is all of it.
func (s *scan) expect(next string) bool {
	count := common(s.rest(), next)
	s.at += count
	return count == len(next)
}

// common returns how many bytes two texts have in common at their beginnings.
func common(a, b string) int {
	count := 0
	for count < min(len(a), len(b)) && a[count] == b[count] {
		count++
	}
	return count
}
