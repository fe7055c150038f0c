package tests

import (
	"fmt"
	"math"
	"slices"
	"strings"
	"testing"

	"loop.example/g01327/impl"
)

// outcome is what a line changes and outputs.
type outcome struct {
	desk   impl.Desk
	output string
	ok     bool
}

// slowTeller returns what a line of one word outputs, or that it outputs none.
func slowTeller(d impl.Desk, name string) (string, bool, bool) {
	numbers := func(ok bool, list ...float32) (string, bool, bool) { return slowNumbers(list), ok, true }
	switch name {
	case "matrix":
		return slowMatrixText(d.Matrix), true, true
	case "vector":
		return slowNumbers(d.Vector), true, true
	case "chain":
		return slowChainText(d.Chain), true, true
	case "whole":
		return slowWholeText(d.Whole), true, true
	case "trace":
		x, ok := impl.TraceOf(d.Matrix)
		return numbers(ok, x)
	case "norms":
		x, ok := impl.RowNorm(d.Matrix)
		y, ok2 := impl.ColumnNorm(d.Matrix)
		z, ok3 := impl.WholeNorm(d.Matrix)
		return numbers(ok && ok2 && ok3, x, y, z)
	case "signs":
		list, ok := impl.SignsOf(d.Matrix)
		return numbers(ok, list...)
	case "det":
		n, ok := impl.DetOfWhole(d.Whole)
		return fmt.Sprint(n), ok, true
	case "normal":
		list, ok := impl.NormalOf(d.Whole)
		return slowIntegers(list), ok, true
	}
	return "", false, false
}

// slowChanger returns what a line of one word makes of a desk, or that it changes none.
func slowChanger(d impl.Desk, name string) (impl.Desk, bool, bool) {
	ok := false
	switch name {
	case "flip":
		d.Matrix, ok = impl.FlipMatrix(d.Matrix)
	case "even":
		d.Matrix, ok = impl.SymmetricPart(d.Matrix)
	case "times":
		d.Vector, ok = impl.TimesVector(d.Matrix, d.Vector)
	case "solve":
		d.Vector, ok = impl.SolveChain(d.Chain, d.Vector)
	case "echelon":
		d.Whole, _, ok = impl.EchelonOf(d.Whole)
	case "reals":
		d.Matrix, ok = impl.MatrixOf(d.Whole)
	default:
		return d, false, false
	}
	return d, ok, true
}

// slowTextLine carries out a line of two words whose latter one is a text.
func slowTextLine(d impl.Desk, name, text string) (outcome, bool) {
	ok := false
	switch name {
	case "matrix":
		d.Matrix, ok = impl.ReadMatrix(text)
	case "vector":
		d.Vector, ok = impl.ReadNumbers(text)
	case "chain":
		d.Chain, ok = impl.ReadChain(text)
	case "whole":
		d.Whole, ok = impl.ReadWhole(text)
	case "mul":
		other, _ := impl.ReadMatrix(text)
		d.Matrix, ok = impl.MulMatrices(d.Matrix, other)
	case "round", "below":
		list, told := impl.ReadNumbers(text)
		if !told || len(list) != 1 {
			return outcome{}, true
		}
		if name == "below" {
			count, ok := impl.CountBelow(d.Chain, list[0])
			return outcome{d, fmt.Sprint(count), ok}, true
		}
		d.Whole, ok = impl.WholeOf(d.Matrix, list[0])
	default:
		return outcome{}, false
	}
	return outcome{d, "ok", ok && impl.ValidDesk(d)}, true
}

// slowNumberLine carries out a line of two words whose latter one is a number in decimal.
func slowNumberLine(d impl.Desk, name, word string) (outcome, bool) {
	n, told := impl.ReadDecimal(word)
	ok, output := false, "ok"
	switch name {
	case "power":
		d.Matrix, ok = impl.PowerMatrix(d.Matrix, n)
	case "exp":
		d.Matrix, ok = impl.ExpMatrix(d.Matrix, n)
	case "values":
		list, _, ok2 := impl.TurnValues(d.Matrix, n)
		output, ok = slowNumbers(list), ok2
	case "singular":
		list, ok2 := impl.SingularOf(d.Matrix, n)
		output, ok = slowNumbers(list), ok2
	case "value":
		x, ok2 := impl.ValueOfChain(d.Chain, n)
		output, ok = slowNumbers([]float32{x}), ok2
	case "rank":
		count, ok2 := impl.RankOver(d.Whole, n)
		output, ok = fmt.Sprint(count), ok2
	default:
		return outcome{}, false
	}
	return outcome{d, output, told && ok}, true
}

// slowOutcome returns what a line changes and outputs, or that it has no form.
func slowOutcome(d impl.Desk, line string) (outcome, bool) {
	name, word, two := strings.Cut(line, " ")
	if strings.Contains(word, " ") {
		return outcome{}, false
	}
	if two {
		if out, is := slowTextLine(d, name, word); is {
			return out, true
		}
		return slowNumberLine(d, name, word)
	}
	if output, ok, is := slowTeller(d, name); is {
		return outcome{d, output, ok}, true
	}
	after, ok, is := slowChanger(d, name)
	return outcome{after, "ok", ok}, is
}

// slowCommand carries out a line without chapter 8 of the program, but for the readers.
func slowCommand(d impl.Desk, line string) (impl.Desk, string) {
	out, is := slowOutcome(d, line)
	switch {
	case !is:
		return d, "what"
	case !out.ok:
		return d, "no"
	}
	return out.desk, out.output
}

// P9: a desk outputs what the functions tell.
func TestPromise9Outputs(t *testing.T) {
	for seed := range int64(1200) {
		in := deskInputs(int(seed%4), 9000000+seed)
		d, outputs := in.desk, ""
		for _, line := range in.lines {
			want, output := slowCommand(d, line)
			wantLine(t, d, line, output, want)
			wantBool(t, "the desk is valid", impl.ValidDesk(want), true)
			d, outputs = want, outputs+output+"\n"
		}
		wantRun(t, in.desk, script(in.lines), outputs, d)
		wantJournalRun(t, in.desk, slowJournal(in.lines), int64(len(in.lines)), d)
		bad, good, ok := impl.CountOutputs(outputs)
		wantBool(t, "CountOutputs", ok && bad+good == int64(len(in.lines)), true)
	}
}

// P9: what a desk outputs of its parts makes them again.
func TestPromise9Parts(t *testing.T) {
	for seed := range int64(2000) {
		in := deskInputs(int(seed%4), 9100000+seed)
		_, outputs, ok := impl.RunDesk(in.desk, "matrix\nvector\nchain\nwhole\n")
		texts := strings.Split(outputs, "\n")
		wantBool(t, "four outputs", ok && len(texts) == 5, true)
		lines := []string{"matrix " + texts[0], "vector " + texts[1], "chain " + texts[2], "whole " + texts[3]}
		wantRun(t, newDesk(), script(lines), "ok\nok\nok\nok\n", in.desk)
	}
}

// bytes returns a line of any bytes.
func (d *dice) bytes(count int64) string {
	line := make([]byte, count)
	for i := range line {
		line[i] = byte(d.next())
		if line[i] == '\n' {
			line[i] = ' '
		}
	}
	return string(line)
}

// slowLines returns the lines of the longest journal at the beginning of a text, of all lists of
// lines that are told by the places of newlines.
func slowLines(text string) []string {
	var lines []string
	for end := range text {
		if text[end] != '\n' {
			continue
		}
		var tried []string
		for _, entry := range strings.Split(text[:end], "\n") {
			_, line, _ := strings.Cut(entry, " ")
			tried = append(tried, line)
		}
		if slowJournal(tried) == text[:end+1] {
			lines = tried
		}
	}
	return lines
}

// P9: a journal is recovered as far as it is intact.
func TestPromise9Journals(t *testing.T) {
	d := &dice{90}
	for range 1000 {
		var lines []string
		for range d.next() % 12 {
			lines = append(lines, d.one(d.bytes(d.next()%30), d.deskLine(int(d.next()%4), 2), ""))
		}
		text, ok := impl.JournalOf(lines)
		wantBool(t, "JournalOf", ok && text == slowJournal(lines), true)
		wantRecoveredLines(t, text, lines)
		for range 8 {
			at, bit := d.next(), d.next()%9
			other := broken(text, at, bit)
			wantRecoveredLines(t, other, slowLines(other))
			intact := 0
			for len(text) > 0 && len(slowJournal(lines[:intact+1])) <= int(at)%len(text) {
				intact++
			}
			wantRecoveredLines(t, other, lines[:intact])
			wantRecoveredLines(t, other+d.bytes(9), slowLines(other))
		}
	}
}

// deskArguments are what the functions of chapter 8 are told of in the tests of promise 1.
type deskArguments struct {
	desk, other impl.Desk
	lines       []string
	text        string
}

// deskResults tells the results of all functions of chapter 8 by texts.
func deskResults(in deskArguments) string {
	var out []any
	tell := func(parts ...any) { out = append(out, parts...) }
	tell(impl.ValidDesk(in.desk), impl.SameDesk(in.desk, in.other), toldDesk(impl.NewDesk()))
	text, ok := impl.MatrixText(in.desk.Matrix)
	tell(text, ok)
	text, ok = impl.ChainText(in.desk.Chain)
	tell(text, ok)
	text, ok = impl.WholeText(in.desk.Whole)
	tell(text, ok)
	for _, line := range append([]string{in.text, ""}, in.lines...) {
		_, word, _ := strings.Cut(line, " ")
		for _, t := range []string{line, word} {
			a, ok := impl.ReadMatrix(t)
			tell(toldMatrix(a), ok)
			c, ok := impl.ReadChain(t)
			tell(toldChain(c), ok)
			w, ok := impl.ReadWhole(t)
			tell(toldWhole(w), ok)
		}
		after, output, ok := impl.DeskCommand(in.desk, line)
		tell(toldDesk(after), output, ok)
	}
	journal, ok := impl.JournalOf(in.lines)
	tell(journal, ok)
	for _, t := range []string{in.text, script(in.lines), journal, journal + in.text} {
		after, outputs, ok := impl.RunDesk(in.desk, t)
		tell(toldDesk(after), outputs, ok)
		bad, good, ok := impl.CountOutputs(t)
		tell(bad, good, ok)
		lines, size, ok := impl.RecoverJournal(t)
		tell(fmt.Sprintf("%q", lines), size, ok)
		after, count, ok := impl.RunJournal(in.desk, t)
		tell(toldDesk(after), count, ok)
	}
	return fmt.Sprint(out...)
}

// chosenDesk returns valid arguments and other ones, the same ones for the same seed.
func chosenDesk(seed int64) deskArguments {
	input := deskInputs(int(seed%4), 9200000+seed)
	d := &dice{seed}
	in := deskArguments{desk: input.desk, other: deskInputs(int(seed%4), 9200000+seed-seed%2).desk, lines: input.lines[:10], text: slowJournal(input.lines)}
	if seed%3 == 0 {
		in.text = broken(in.text, input.at, input.bit)
	}
	if seed%5 == 0 { // arguments that are not what they have to be
		bad := notDesks()
		in.other = in.desk
		in.desk = bad[d.next()%int64(len(bad))]
		in.lines = append(in.lines, d.one("\n", "a\nb", strings.Repeat("x", 17000), "\xff"))
	}
	if seed%7 == 0 {
		in.text = d.one(d.bytes(99), strings.Repeat("\n", 16001), "1,1;3f800000", "3f800000;none", "1,1;5", "no\nok\n", "none", in.text+"x")
	}
	return in
}

// P1: every function returns, and returns equal results for equal arguments, whoever calls.
func TestPromise1EqualDesks(t *testing.T) {
	wantEqualResults(t, 20, 14, func(i, k int) string { return deskResults(chosenDesk(int64(14*i + k))) })
	for _, text := range []string{strings.Repeat("0 \n", 1<<18), strings.Repeat("\xff", 1<<20), strings.Repeat("\n", 1<<20), strings.Repeat(";", 1<<20), strings.Repeat(" ", 1<<20), strings.Repeat("1,", 1<<19), strings.Repeat("none,", 1<<18)} {
		deskResults(deskArguments{desk: newDesk(), lines: []string{text, "matrix " + text}, text: text})
		deskResults(deskArguments{lines: []string{text}, text: text})
	}
	deskResults(deskArguments{desk: deskWithMatrix(matrix(math.MaxInt64, math.MinInt64)), other: deskWithWhole(integers(math.MinInt64, math.MaxInt64))})
}

// guardedDesk returns a desk with spare room behind all lists, and what tells whether they, or
// this room, have changed.
func guardedDesk(d impl.Desk) (impl.Desk, func() bool) {
	var all [5]func() bool
	d.Matrix.Numbers, all[0] = guarded(d.Matrix.Numbers, 99, toldText)
	d.Vector, all[1] = guarded(d.Vector, 99, toldText)
	d.Chain.Mids, all[2] = guarded(d.Chain.Mids, 99, toldText)
	d.Chain.Sides, all[3] = guarded(d.Chain.Sides, 99, toldText)
	d.Whole, all[4] = guardedWhole(d.Whole)
	return d, func() bool {
		return slices.ContainsFunc(all[:], func(changed func() bool) bool { return changed() })
	}
}

// P1: no function modifies an argument, or the room behind it.
func TestPromise1DesksStay(t *testing.T) {
	for seed := range int64(200) {
		in := chosenDesk(seed)
		var changed [3]func() bool
		in.desk, changed[0] = guardedDesk(in.desk)
		in.other, changed[1] = guardedDesk(in.other)
		in.lines, changed[2] = guarded(in.lines, "spare", func(line string) string { return line })
		for range 2 {
			deskResults(in)
			wantBool(t, fmt.Sprint("an argument has changed, ", seed), changed[0]() || changed[1]() || changed[2](), false)
		}
	}
}

// listsOf returns the lists of numbers of a desk that are not empty.
func listsOf(d impl.Desk) [][]float32 {
	return slices.DeleteFunc([][]float32{d.Matrix.Numbers, d.Vector, d.Chain.Mids, d.Chain.Sides}, func(list []float32) bool { return len(list) == 0 })
}

// P1: what a function has returned is the caller's own.
func TestPromise1DesksAreNew(t *testing.T) {
	desks := map[string]func(d impl.Desk) (impl.Desk, bool){
		"NewDesk":        func(d impl.Desk) (impl.Desk, bool) { return impl.NewDesk(), true },
		"RunDesk":        func(d impl.Desk) (impl.Desk, bool) { after, _, ok := impl.RunDesk(d, ""); return after, ok },
		"RunDesk, twice": func(d impl.Desk) (impl.Desk, bool) { after, _, ok := impl.RunDesk(d, "flip\nflip\n"); return after, ok },
		"RunDesk, no":    func(d impl.Desk) (impl.Desk, bool) { after, _, ok := impl.RunDesk(d, "no\nrank 4\n"); return after, ok },
		"RunJournal":     func(d impl.Desk) (impl.Desk, bool) { after, _, ok := impl.RunJournal(d, ""); return after, ok },
		"RunJournal flip": func(d impl.Desk) (impl.Desk, bool) {
			after, _, ok := impl.RunJournal(d, slowJournal([]string{"flip"}))
			return after, ok
		},
	}
	for _, line := range append(forms(), "", "x", "power 65", "vector none", "rank 4", "power 0", "power 1", "singular 0", "values 0") {
		desks["DeskCommand "+line] = func(d impl.Desk) (impl.Desk, bool) { after, _, ok := impl.DeskCommand(d, line); return after, ok }
	}
	calls := map[string]func() ([][]float32, bool){
		"ReadMatrix": func() ([][]float32, bool) {
			a, ok := impl.ReadMatrix("1,1;3f800000")
			return [][]float32{a.Numbers}, ok
		},
		"ReadChain": func() ([][]float32, bool) {
			c, ok := impl.ReadChain("3f800000,3f800000;3f800000")
			return [][]float32{c.Mids, c.Sides}, ok
		},
	}
	wholes := map[string]func() ([][]int64, bool){
		"ReadWhole": func() ([][]int64, bool) { w, ok := impl.ReadWhole("1,1;5"); return [][]int64{w.Numbers}, ok },
	}
	kept := map[string]impl.Desk{}
	for name, call := range desks {
		d := newDesk()
		kept[name] = d
		calls[name] = func() ([][]float32, bool) { after, ok := call(d); return listsOf(after), ok }
		wholes[name] = func() ([][]int64, bool) { after, ok := call(d); return [][]int64{after.Whole.Numbers}, ok }
	}
	wantOwn(t, calls)
	wantOwn(t, wholes)
	for name, d := range kept {
		wantDesk(t, name+": a result shares no memory with a desk", d, true, newDesk())
	}
	lines, _, _ := impl.RecoverJournal("0 \n254 a\n")
	lines[0] = "x"
	again, _, ok := impl.RecoverJournal("0 \n254 a\n")
	wantBool(t, "RecoverJournal again", ok && slices.Equal(again, []string{"", "a"}), true)
}
