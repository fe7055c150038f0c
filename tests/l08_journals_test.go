package tests

import (
	"fmt"
	"slices"
	"strings"
	"testing"

	"loop.example/g01327/impl"
)

func wantJournal(t *testing.T, lines []string, want string) {
	t.Helper()
	text, ok := impl.JournalOf(lines)
	if !ok || text != want {
		t.Errorf("JournalOf %.99q: got %.999q %v, want %.999q", lines, text, ok, want)
	}
}

func wantNoJournal(t *testing.T, lines []string) {
	t.Helper()
	text, ok := impl.JournalOf(lines)
	wantBool(t, fmt.Sprintf("JournalOf %.99q", lines), ok || text != "", false)
}

// wantRecoveredLines checks which lines are recovered from a text.
func wantRecoveredLines(t *testing.T, text string, want []string) {
	t.Helper()
	lines, size, ok := impl.RecoverJournal(text)
	if !ok || !slices.Equal(lines, want) || size != int64(len(slowJournal(want))) {
		t.Errorf("RecoverJournal %.99q: got %.99q %d %v, want %.99q", text, lines, size, ok, want)
	}
}

// someLines are lines of all kinds.
func someLines() []string {
	return []string{"flip", "", "det", "mul 2,1;3f800000,3f800000", " ", "  a  ", "0 det", "12 flip", "\x00\xff\t\r", "x", "", "det"}
}

// fitting returns a line whose journal has size bytes.
func fitting(size int) string {
	for n := size - 7; n < size; n++ {
		for _, letter := range []string{"x", "y", "z", " "} {
			if line := strings.Repeat(letter, n); len(slowJournal([]string{line})) == size {
				return line
			}
		}
	}
	return ""
}

func TestJournalOf(t *testing.T) {
	wantJournal(t, nil, "")
	wantJournal(t, []string{}, "")
	wantJournal(t, []string{""}, "0 \n")
	wantJournal(t, []string{"", "", ""}, "0 \n0 \n0 \n")
	wantJournal(t, []string{"a"}, "254 a\n")
	wantJournal(t, []string{"a", "", "b"}, "254 a\n254 \n24448 b\n")
	wantJournal(t, []string{"\x00"}, "157 \x00\n")
	for n := range len(someLines()) + 1 {
		wantJournal(t, someLines()[:n], slowJournal(someLines()[:n]))
	}
	for _, bad := range []string{"\n", "a\n", "\na", "a\nb", "det\r\n", "\n\n", strings.Repeat("x", 20000) + "\n"} {
		wantNoJournal(t, []string{bad})
		for i := range 4 {
			lines := slices.Clone(someLines()[:4])
			lines[i] = bad
			wantNoJournal(t, lines)
		}
	}
}

func TestJournalLimits(t *testing.T) {
	line := fitting(16000)
	longer := fitting(16001)
	wantBool(t, "there are such lines", line != "" && longer != "", true)
	wantJournal(t, []string{line}, slowJournal([]string{line}))
	wantRecoveredLines(t, slowJournal([]string{line}), []string{line})
	wantNoJournal(t, []string{longer})
	wantNoJournal(t, []string{line, ""})
	wantNoJournal(t, []string{"", line})
	wantNoJournal(t, []string{strings.Repeat("x", 1<<20)})
	empty := repeated("", 5333)
	wantJournal(t, empty, strings.Repeat("0 \n", 5333))
	wantRecoveredLines(t, strings.Repeat("0 \n", 5333), empty)
	wantNoJournal(t, append(empty, ""))
	wantNoJournal(t, repeated("", 1<<20))
	many := append(slices.Clone(empty[:5330]), fitting(10))
	wantBool(t, "many lines have MaxScript bytes", len(slowJournal(many)) == 16000, true)
	wantJournal(t, many, slowJournal(many))
	wantRecoveredLines(t, slowJournal(many), many)
	// a longer text is none, whatever it begins with
	for _, text := range []string{slowJournal([]string{longer}), slowJournal([]string{line}) + "x", strings.Repeat("0 \n", 5333) + "0 ", slowJournal(many) + "\n", strings.Repeat("x", 16001), strings.Repeat("0 \n", 1<<18)} {
		lines, size, ok := impl.RecoverJournal(text)
		wantNothing(t, fmt.Sprintf("RecoverJournal %.99q", text), lines, ok)
		d, count, ok := impl.RunJournal(newDesk(), text)
		wantNoDesk(t, fmt.Sprintf("RunJournal %.99q", text), d, ok)
		wantBool(t, "no size and no lines", size == 0 && count == 0, true)
	}
	wantRecoveredLines(t, strings.Repeat("x", 16000), nil)
	wantRecoveredLines(t, "0 \n"+strings.Repeat("x", 15997), []string{""})
}

func TestRecoverJournal(t *testing.T) {
	for n := range len(someLines()) + 1 {
		lines := someLines()[:n]
		text := slowJournal(lines)
		wantRecoveredLines(t, text, lines)
		for _, more := range []string{"\n", " ", "x", "det", "det\n", " \n", "1 \n", "-1 det\n", "0", "0 ", "\x00", "255 a\n", "99999 det\n"} {
			wantRecoveredLines(t, text+more, lines)
			wantRecoveredLines(t, text+more+text, lines)
			wantRecoveredLines(t, more+text, nil)
		}
	}
	wantRecoveredLines(t, "", nil)
	wantRecoveredLines(t, "254 a\n", []string{"a"})
	wantRecoveredLines(t, "254 a\n254 \n24448 b\n", []string{"a", "", "b"})
	wantRecoveredLines(t, "254 a\n254 a\n", []string{"a"}) // the check number begins with that of the line before
	wantRecoveredLines(t, "254 a\n255 b\n", []string{"a"})
	wantRecoveredLines(t, "24448 b\n254 a\n", nil)
	wantRecoveredLines(t, "0 \n254 a\n", []string{"", "a"})
	for _, text := range []string{
		"254 a", "254 a\r\n", "0254 a\n", "+254 a\n", "-254 a\n", "00254 a\n", " 254 a\n", "254  a\n", "254\ta\n", "254a\n", "254\n", "254 \n", "a\n", " a\n", "\n254 a\n", "253 a\n", "255 a\n", "65257 a\n", "-64749 a\n", "254 A\n", "254 a \n", "254 aa\n", "254, a\n", "254.0 a\n", "0xfe a\n", "fe a\n", "2 54 a\n", "25 4 a\n", "254 b\n", "255 \n",
		"00 \n", "+0 \n", "-0 \n", "\n", " \n", "0\n", "0  \n", "65003 \n", "18446744073709551870 a\n", "4294967550 a\n",
	} {
		wantRecoveredLines(t, text, nil)
		wantRecoveredLines(t, "0 \n"+text, []string{""})
		wantRecoveredLines(t, text+"254 a\n", nil)
	}
}

func TestBrokenJournals(t *testing.T) {
	lines := someLines()
	text := slowJournal(lines)
	end, whole := 0, 0
	for i := range text {
		if next := len(slowJournal(lines[:whole+1])); i == next {
			end, whole = next, whole+1
		}
		wantBool(t, "a byte of the next line", end <= i, true)
		wantRecoveredLines(t, text[:i], lines[:whole])
		if i+1 < len(text) && text[i] != text[i+1] {
			wantRecoveredLines(t, text[:i]+text[i+1:], lines[:whole])
		}
		for b := range 256 {
			if other := string([]byte{byte(b)}); other != text[i:i+1] {
				wantRecoveredLines(t, text[:i]+other+text[i+1:], lines[:whole])
			}
		}
	}
	// lines that have changed places, or are missing
	for i := range lines {
		other := slices.Clone(lines)
		k := (i + 5) % len(lines)
		other[i], other[k] = other[k], other[i]
		entries, others := strings.SplitAfter(text, "\n"), strings.SplitAfter(slowJournal(other), "\n")
		wantBool(t, "entries", len(entries) == len(lines)+1 && len(others) == len(lines)+1, true)
		entries[i], entries[k] = entries[k], entries[i]
		wantRecoveredLines(t, strings.Join(entries, ""), lines[:min(i, k)])
		entries = strings.SplitAfter(text, "\n")
		if lines[i] != "" {
			wantRecoveredLines(t, strings.Join(slices.Delete(entries, i, i+1), ""), lines[:i])
		}
	}
}

func wantJournalRun(t *testing.T, d impl.Desk, text string, count int64, after impl.Desk) {
	t.Helper()
	got, n, ok := impl.RunJournal(d, text)
	wantDesk(t, fmt.Sprintf("RunJournal %.99q", text), got, ok, after)
	wantBool(t, fmt.Sprintf("RunJournal %.99q: %d lines", text, n), n == count, true)
}

func TestRunJournal(t *testing.T) {
	d := newDesk()
	wantJournalRun(t, d, "", 0, d)
	wantJournalRun(t, d, "x\n", 0, d)
	wantJournalRun(t, greatDesk(), "0 \n", 1, greatDesk())
	lines := []string{"times", "vector none", "", "x", "det", "times", "matrix 1,1;40000000", "power 3"}
	text := slowJournal(lines)
	after := []impl.Desk{d, deskWithVector(2, 1), deskWithVector(2, 1), deskWithVector(2, 1), deskWithVector(2, 1), deskWithVector(2, 1), deskWithVector(5, 4), changedDesk(func(d *impl.Desk) { d.Vector, d.Matrix = []float32{5, 4}, matrix(1, 1, 2) }), changedDesk(func(d *impl.Desk) { d.Vector, d.Matrix = []float32{5, 4}, matrix(1, 1, 8) })}
	whole := 0
	for i := range len(text) + 1 {
		if whole < len(lines) && i == len(slowJournal(lines[:whole+1])) {
			whole++
		}
		wantJournalRun(t, d, text[:i], int64(whole), after[whole])
		wantJournalRun(t, d, text[:i]+"\x00"+text[i:], int64(whole), after[whole])
	}
	for _, more := range []string{"x", "\n", "times\n", "0 times\n", text, " "} {
		wantJournalRun(t, d, text+more, int64(len(lines)), after[len(lines)])
	}
}
