package season_test

import (
	"fmt"
	"math/big"
	"math/rand"
	"slices"
	"sort"
	"strings"
	"testing"

	"bivouac/api"
	"bivouac/season"
)

// What follows are the definitions of the chapter, by hand.

// checksumBy returns the checksum of a text as the value of a polynomial.
func checksumBy(text string) int {
	factor, modulus := big.NewInt(31), big.NewInt(65521)
	sum, power := new(big.Int), big.NewInt(1)
	for _, b := range slices.Backward([]byte(text)) {
		sum.Add(sum, new(big.Int).Mul(power, big.NewInt(int64(b))))
		power.Mul(power, factor)
	}
	sum.Add(sum, power.Mul(power, big.NewInt(7)))
	return int(sum.Mod(sum, modulus).Int64())
}

func endBy(lines string, count int) string {
	return fmt.Sprintf("end %d %d\n", count, checksumBy(lines))
}

func fileBy(script []string) string {
	var lines string
	for _, line := range script {
		lines += fmt.Sprintf("%d %s\n", len(line), line)
	}
	return lines + endBy(lines, len(script))
}

func isWritable(line string) bool {
	isOut := func(r rune) bool { return r < ' ' || r > '~' }
	return len(line) <= 60 && !strings.ContainsFunc(line, isOut)
}

// goesOn reports whether some file that begins with some lines goes on with a text.
func goesOn(lines string, count int, text string) bool {
	if strings.HasPrefix(endBy(lines, count), text) {
		return true
	}
	for length := range 61 {
		head := fmt.Sprintf("%d ", length)
		rest, isHead := strings.CutPrefix(text, head)
		switch {
		case count >= 80 || !isHead && !strings.HasPrefix(head, text):
			continue
		case !isHead || len(rest) <= length && isWritable(rest):
			return true
		case len(rest) > length && isWritable(rest[:length]) && rest[length] == '\n':
			return goesOn(lines+head+rest[:length+1], count+1, rest[length+1:])
		}
	}
	return false
}

// checkRead compares what is read from a text with the script, or with the number of
// bytes with which some file begins.
func checkRead(t *testing.T, text string, script []string, at int) {
	t.Helper()
	want := api.OK
	if at >= 0 {
		script, want = nil, api.ErrFile
	}
	if got, bytes, e := season.Read(text); !slices.Equal(got, script) || bytes != max(at, 0) || e != want {
		t.Errorf("Read of %q = %q, %d, %d, want %q, %d, %d", text, got, bytes, e, script, at, want)
	}
}

// checkWrite compares the file of a script with the one that is wanted, and reads it.
func checkWrite(t *testing.T, script []string, want string) {
	t.Helper()
	if text, e := season.Write(script); text != want || e != api.OK {
		t.Errorf("Write of %q = %q, %d, want %q", script, text, e, want)
	}
	checkRead(t, want, script, -1)
}

// TestP12_3_Write: the examples, lines of all lengths, and as many as there may be.
func TestP12_3_Write(t *testing.T) {
	checkWrite(t, []string{"a"}, "1 a\nend 1 30134\n")
	checkWrite(t, nil, "end 0 7\n")
	checkWrite(t, []string{}, "end 0 7\n")
	checkWrite(t, []string{""}, "0 \nend 1 59104\n")
	checkWrite(t, []string{" ", "~", "", "1 a", "end 0 7"}, fileBy([]string{" ", "~", "", "1 a", "end 0 7"}))
	checkWrite(t, linesOf(exampleScript()), fileBy(linesOf(exampleScript())))
	var all string
	for b := byte(32); b <= 126; b++ {
		all += string(rune(b))
		checkWrite(t, []string{string(rune(b))}, fileBy([]string{string(rune(b))}))
	}
	checkWrite(t, []string{all[:60], all[60:]}, fileBy([]string{all[:60], all[60:]}))
	for length := range 61 {
		script := many(length, strings.Repeat("z", length))
		checkWrite(t, script, fileBy(script))
	}
	for _, count := range []int{9, 10, 11, 79, 80} {
		checkWrite(t, many(count, "undo"), fileBy(many(count, "undo")))
		checkWrite(t, many(count, ""), fileBy(many(count, "")))
	}
}

// TestP12_3_errors: lines that cannot be written, anywhere in a script, and too many of
// them.
func TestP12_3_errors(t *testing.T) {
	check := func(script []string, want api.Errno) {
		t.Helper()
		if text, e := season.Write(script); text != "" || e != want {
			t.Errorf("Write of %q = %q, %d, want %d", script, text, e, want)
		}
	}
	for _, line := range []string{"\x1f", "\x7f", "\n", "a\n", "\t", "\x00", "\r", "\u00e4", "\xff", "\x80", "a\x7fb", strings.Repeat("a", 61), strings.Repeat("a", 1000), strings.Repeat("a", 60) + "\n", strings.Repeat("a", 59) + "\n"} {
		for i := range 3 {
			script := many(3, "a")
			script[i] = line
			check(script, api.ErrScript)
		}
		check(append(many(79, "a"), line), api.ErrScript)
		check(append(many(80, "a"), line), api.ErrMany)
		check(many(81, line), api.ErrMany)
	}
	check(many(81, ""), api.ErrMany)
	check(many(1000, "a"), api.ErrMany)
}

// TestP12_4_Read: texts that are no files, with the number of bytes up to which they
// could be.
func TestP12_4_Read(t *testing.T) {
	for _, x := range []struct {
		good, bad string // what is read, and what comes behind it
	}{
		{"", ""}, {"", "x"}, {"", " "}, {"", "\n"}, {"", "-1 a"}, {"", "+1 a"}, {"", " 1 a"}, {"", "END"}, {"", "\xff"}, {"", "a"}, {"", "nd 0 7\n"},
		{"e", ""}, {"en", ""}, {"end", ""}, {"end ", ""}, {"end 0", ""}, {"end 0 ", ""}, {"end 0 7", ""}, {"e", "e"}, {"en", "n"}, {"end", "0"}, {"end", "\n"}, {"end ", " 0 7\n"}, {"end ", "1 7\n"}, {"end ", "-0 7\n"}, {"end 0", "0 7\n"}, {"end 0", "\n"}, {"end 0", "7\n"},
		{"end 0 ", "8\n"}, {"end 0 ", "07\n"}, {"end 0 ", " 7\n"}, {"end 0 ", "65528\n"}, {"end 0 7", " "}, {"end 0 7", "0\n"}, {"end 0 7", "\r\n"}, {"end 0 7\n", "\n"}, {"end 0 7\n", "end 0 7\n"}, {"end 0 7\n", "0 \n"}, {"end 0 7\n", "\x00"},
		{"0", ""}, {"0 ", ""}, {"0 \n", ""}, {"0", "0"}, {"0", "1 a\n"}, {"0", "\n"}, {"0 ", "a"}, {"0 ", " "}, {"0 \n", "\n"}, {"0 \ne", ""}, {"0 \nend ", "0"}, {"0 \nend 1", ""}, {"0 \nend 1 59104", ""}, {"0 \nend 1 5", "8"},
		{"1", ""}, {"1 ", ""}, {"1 a", ""}, {"1 a\n", ""}, {"1", "\n"}, {"1 ", "\n"}, {"1 a", "b\n"}, {"1 a\n", "\n"}, {"1 a\n", " "}, {"1 ", "\x7f"}, {"1 ", "\x1f"}, {"1 ", "\u00e4"}, {"1 a\nend ", "2 30134\n"}, {"1 a\nend 1", "0 30134\n"}, {"1 a\nend 1 3013", "5\n"}, {"1 a\nend 1 30134", "\x00"}, {"1 a\nend 1 30134", ""}, {"1 a\nend 1 30134\n", "1 a\n"}, {"1 b\nend 1 301", "34\n"},
		{"2 a", "\n"}, {"2 a", ""}, {"2 ab", ""}, {"2 ab", "c"}, {"2 e", "\nnd 0 7\n"}, {"6", ""}, {"6", "1"}, {"6", "9 "}, {"60", ""}, {"60", "0"}, {"60", "1"}, {"60 ", ""}, {"60 " + strings.Repeat("a", 60), ""}, {"60 " + strings.Repeat("a", 60), "a\n"}, {"60 " + strings.Repeat("a", 59), "\n"}, {"60 " + strings.Repeat("a", 60) + "\n", "x"},
		{"7", "0 "}, {"7", "\n"}, {"8", "8"}, {"9", "9"}, {"9 ", "\n"}, {"59", "9"}, {"59 ", "\n"}, {"12", "3"}, {"10", "0"}, {"5", "x"}, {"1", "+"}, {"1", "e"}, {"3 en", "\n"}, {"3 end\n", "\n"},
		{strings.Repeat("0 \n", 80), "0 \n"}, {strings.Repeat("0 \n", 80), "1"}, {strings.Repeat("0 \n", 80), "\n"}, {strings.Repeat("0 \n", 80) + "e", "e"}, {strings.Repeat("0 \n", 80) + "end 8", "1"}, {strings.Repeat("0 \n", 80) + "end 80 ", "x"}, {strings.Repeat("0 \n", 79) + "0", ""}, {strings.Repeat("0 \n", 80), ""}, {strings.Repeat("0 \n", 10) + "end 10", ""}, {strings.Repeat("0 \n", 10) + "end 1", "1"}, {strings.Repeat("0 \n", 10) + "end 1", " "},
	} {
		checkRead(t, x.good+x.bad, nil, len(x.good))
	}
}

// readBy returns the greatest number of bytes of a text with which some file begins.
func readBy(text string) int {
	// If none begins with some bytes, none begins with more of them.
	return sort.Search(len(text), func(last int) bool { return !goesOn("", 0, text[:last+1]) })
}

// TestP12_4_short: all short texts of some bytes that files have.
func TestP12_4_short(t *testing.T) {
	var try func(text string)
	try = func(text string) {
		checkRead(t, text, nil, readBy(text))
		for _, b := range "016a en\n" {
			if len(text) < 4 && !t.Failed() {
				try(text + string(b))
			}
		}
	}
	try("")
}

// pickFile returns the file of a script, with some bytes that are changed, removed or
// added.
func pickFile(r *rand.Rand, script []string) string {
	text := []byte(fileBy(script))
	for range r.Intn(3) {
		i := r.Intn(len(text))
		b := []byte("0123456789 \n ~end\x7f\x80")[r.Intn(19)]
		switch r.Intn(4) {
		case 0:
			text[i] = b
		case 1:
			text = slices.Delete(text, i, i+1)
		case 2:
			text = slices.Insert(text, i, b)
		case 3:
			text = text[:i+1]
		}
	}
	return string(text)
}

// TestP12_4_all: what is read of any text is what the definitions say. A text that can be
// read is the file of its script (P12.11).
func TestP12_4_all(t *testing.T) {
	r := rand.New(rand.NewSource(4))
	files, others := 0, 0
	for range 1500 {
		var script []string
		for range r.Intn(6) * r.Intn(16) {
			script = append(script, []string{"", "x", "end 0 7", "1 a", strings.Repeat("y", r.Intn(61))}[r.Intn(5)])
		}
		text := pickFile(r, script)
		got, at, e := season.Read(text)
		if e == api.OK {
			files++
			if fileBy(got) != text || at != 0 || len(got) > 80 || slices.ContainsFunc(got, func(line string) bool { return !isWritable(line) }) {
				t.Fatalf("Read of %q = %q, %d", text, got, at)
			}
			continue
		}
		others++
		if want := readBy(text); at != want || len(got) > 0 || e != api.ErrFile || text == fileBy(script) {
			t.Fatalf("Read of %q = %q, %d, %d, want %d", text, got, at, e, want)
		}
	}
	if min(files, others) < 300 {
		t.Errorf("just %d files and %d other texts", files, others)
	}
}
