package tests

import (
	"fmt"
	"strings"
	"testing"

	"loop.example/g01327/impl"
)

// wantLine checks what a line outputs at a desk, and the desk after it, which has not changed
// where no other one is told.
func wantLine(t *testing.T, d impl.Desk, line, output string, after ...impl.Desk) {
	t.Helper()
	want := append(after, d)[0]
	got, out, ok := impl.DeskCommand(d, line)
	wantDesk(t, fmt.Sprintf("the desk after %q", line), got, ok, want)
	if out != output {
		t.Errorf("%q: got %q, want %q", line, out, output)
	}
}

func TestLinesOfParts(t *testing.T) {
	d := newDesk()
	wantLine(t, d, "matrix", "2,2;40000000,3f800000,3f800000,40000000")
	wantLine(t, d, "vector", "3f800000,00000000")
	wantLine(t, d, "chain", "40000000,40000000;3f800000")
	wantLine(t, d, "whole", "2,2;2,4,6,8")
	wantLine(t, d, "matrix 1,2;c0000000,80000000", "ok", deskWithMatrix(matrix(1, 2, -2, minusZero)))
	wantLine(t, d, "vector 40400000,80000000,7f7fffff", "ok", deskWithVector(3, minusZero, greatest))
	wantLine(t, d, "chain 40400000;none", "ok", deskWithChain(chain([]float32{3})))
	wantLine(t, d, "whole 1,3;-7,0,1000000", "ok", deskWithWhole(integers(1, 3, -7, 0, 1000000)))
	for _, whole := range []impl.Desk{greatDesk(), smallDesk()} {
		wantLine(t, whole, "matrix", slowMatrixText(whole.Matrix))
		wantLine(t, whole, "vector", slowNumbers(whole.Vector))
		wantLine(t, whole, "chain", slowChainText(whole.Chain))
		wantLine(t, whole, "whole", slowWholeText(whole.Whole))
		wantLine(t, d, "matrix "+slowMatrixText(whole.Matrix), "ok", deskWithMatrix(whole.Matrix))
		wantLine(t, d, "vector "+slowNumbers(whole.Vector), "ok", deskWithVector(whole.Vector...))
		wantLine(t, d, "chain "+slowChainText(whole.Chain), "ok", deskWithChain(whole.Chain))
		wantLine(t, d, "whole "+slowWholeText(whole.Whole), "ok", deskWithWhole(whole.Whole))
	}
}

func TestLinesOfNoParts(t *testing.T) {
	d := newDesk()
	texts := append(noTexts(), "2,2;1,2,3", "1,1;7fc00000", "7f800000;none", "1,1;1000001", "0,0;none", "1,2;3f800000", "1,1;3f800000,none")
	for _, text := range texts {
		if strings.Contains(text, " ") {
			continue
		}
		for _, name := range []string{"matrix", "chain", "whole", "vector", "mul", "below", "round", "rank"} {
			wantLine(t, d, name+" "+text, "no")
		}
	}
	// texts of other parts
	for _, text := range []string{slowChainText(d.Chain), slowWholeText(d.Whole), slowNumbers(d.Vector), "40000000"} {
		wantLine(t, d, "matrix "+text, "no")
		wantLine(t, d, "mul "+text, "no")
	}
	for _, text := range []string{slowMatrixText(d.Matrix), slowWholeText(d.Whole), slowNumbers(d.Vector), "2,4,6,8"} {
		wantLine(t, d, "chain "+text, "no")
	}
	for _, text := range []string{slowMatrixText(d.Matrix), slowChainText(d.Chain), slowNumbers(d.Vector), "2,4,6,8"} {
		wantLine(t, d, "whole "+text, "no")
	}
	for _, text := range []string{slowMatrixText(d.Matrix), slowChainText(d.Chain), slowWholeText(d.Whole), "2,4,6,8"} {
		wantLine(t, d, "vector "+text, "no")
	}
	// the desk would not be valid
	for _, text := range []string{"none", "7f800000", "ff800000", "7fc00000", "3f800000,7f800000", "7fc00000,3f800000"} {
		wantLine(t, d, "vector "+text, "no")
	}
	wantLine(t, d, "vector "+slowNumbers(repeated[float32](1, 257)), "no")
}

func TestLinesOfMatrices(t *testing.T) {
	d := deskWithMatrix(matrix(2, 2, 1, 2, 3, 4))
	wantLine(t, d, "flip", "ok", deskWithMatrix(matrix(2, 2, 1, 3, 2, 4)))
	wantLine(t, deskWithMatrix(matrix(1, 3, 1, 2, 3)), "flip", "ok", deskWithMatrix(matrix(3, 1, 1, 2, 3)))
	wantLine(t, d, "mul 2,1;3f800000,40000000", "ok", deskWithMatrix(matrix(2, 1, 5, 11)))
	wantLine(t, d, "mul 2,2;00000000,3f800000,3f800000,00000000", "ok", deskWithMatrix(matrix(2, 2, 2, 1, 4, 3)))
	wantLine(t, d, "power 2", "ok", deskWithMatrix(matrix(2, 2, 7, 10, 15, 22)))
	wantLine(t, d, "power 1", "ok", d)
	wantLine(t, d, "power 0", "ok", deskWithMatrix(matrix(2, 2, 1, 0, 0, 1)))
	wantLine(t, deskWithMatrix(matrix(2, 2, 0, 1, 1, 0)), "power 64", "ok", deskWithMatrix(matrix(2, 2, 1, 0, 0, 1)))
	wantLine(t, deskWithMatrix(matrix(2, 2, 0, 1, 0, 0)), "exp 1", "ok", deskWithMatrix(matrix(2, 2, 1, 1, 0, 1)))
	wantLine(t, deskWithMatrix(matrix(2, 2, 0, 0, 0, 0)), "exp 32", "ok", deskWithMatrix(matrix(2, 2, 1, 0, 0, 1)))
	wantLine(t, deskWithMatrix(matrix(1, 1, 0.5)), "exp 2", "ok", deskWithMatrix(matrix(1, 1, 1.625)))
	wantLine(t, d, "even", "ok", deskWithMatrix(matrix(2, 2, 1, 2.5, 2.5, 4)))
	d.Vector = []float32{1, -1}
	led := d
	led.Vector = []float32{-1, -1}
	wantLine(t, d, "times", "ok", led)
	d.Matrix, led.Matrix, led.Vector = matrix(3, 2, 1, 2, 3, 4, 5, 7), matrix(3, 2, 1, 2, 3, 4, 5, 7), []float32{-1, -1, -2}
	wantLine(t, d, "times", "ok", led)
}

func TestLinesThatTellMatrices(t *testing.T) {
	d := deskWithMatrix(matrix(2, 2, 1, 2, 3, 4))
	wantLine(t, d, "trace", "40a00000")
	wantLine(t, d, "signs", "c0a00000,c0000000")
	wantLine(t, deskWithMatrix(matrix(1, 2, 3, -4)), "norms", "40e00000,40800000,40a00000")
	wantLine(t, deskWithMatrix(matrix(1, 1, minusZero)), "norms", "00000000,00000000,00000000")
	wantLine(t, deskWithMatrix(matrix(1, 1, minusZero)), "trace", "00000000")
	columns := deskWithMatrix(matrix(2, 2, 3, 0, 0, -4))
	wantLine(t, columns, "values 0", "c0800000,40400000")
	wantLine(t, columns, "values 64", "c0800000,40400000")
	wantLine(t, columns, "singular 0", "40800000,40400000")
	wantLine(t, columns, "singular 64", "40800000,40400000")
	pair := deskWithMatrix(matrix(2, 2, 1, 1, 1, 1))
	wantLine(t, pair, "values 0", "3f800000,3f800000")
	wantLine(t, pair, "singular 0", "3fb504f3,3fb504f3")
	wantLine(t, deskWithMatrix(matrix(2, 1, 3, 4)), "singular 1", "40a00000")
	turned := "" // the values of 2 1 and 1 2 are 1 and 3, nearly
	for _, x := range []string{"values 1", "value 0", "value 1"} {
		_, out, ok := impl.DeskCommand(newDesk(), x)
		wantBool(t, x, ok, true)
		turned += out + ","
	}
	list, ok := impl.ReadNumbers(strings.TrimSuffix(turned, ","))
	wantBool(t, "texts of values", ok, true)
	wantNear(t, "values", widened(list), []float32{1, 3, 1, 3}, 1e-5)
}

func TestLinesOfChains(t *testing.T) {
	d := newDesk()
	for text, count := range map[string]string{"40000000": "1", "00000000": "0", "80000000": "0", "3f7fff00": "0", "40800000": "2", "c0800000": "0", "7f7fffff": "2", "ff7fffff": "0", "3fc00000": "1"} {
		wantLine(t, d, "below "+text, count)
	}
	wantLine(t, deskWithChain(chain([]float32{0})), "value 0", "00000000")
	wantLine(t, deskWithChain(chain([]float32{3, 1}, 0)), "value 0", "3f800000")
	wantLine(t, deskWithChain(chain([]float32{3, 1}, 0)), "value 1", "403fffff")
	d.Vector = []float32{3, 3}
	solved := d
	solved.Vector = []float32{1, 1}
	wantLine(t, d, "solve", "ok", solved)
	d.Chain, d.Vector = chain([]float32{-2}), []float32{5}
	solved = d
	solved.Vector = []float32{-2.5}
	wantLine(t, d, "solve", "ok", solved)
}

func TestLinesOfWholes(t *testing.T) {
	d := newDesk()
	wantLine(t, d, "det", "-8")
	wantLine(t, d, "normal", "2,4")
	wantLine(t, d, "rank 5", "2")
	wantLine(t, d, "rank 2", "0")
	wantLine(t, d, "rank 997", "2")
	wantLine(t, d, "echelon", "ok", deskWithWhole(integers(2, 2, 2, 0, 0, 4)))
	wantLine(t, d, "reals", "ok", deskWithMatrix(matrix(2, 2, 2, 4, 6, 8)))
	wantLine(t, d, "round 3f000000", "ok", deskWithWhole(integers(2, 2, 1, 1, 1, 1)))
	wantLine(t, d, "round c0400000", "ok", deskWithWhole(integers(2, 2, -6, -3, -3, -6)))
	wantLine(t, d, "round 80000000", "ok", deskWithWhole(allOf(2, 2, 0)))
	wantLine(t, deskWithWhole(allOf(2, 3, 0)), "normal", "0,0")
	wantLine(t, deskWithWhole(inMiddle(100, 100, 100, 100)), "normal", "100,100,100,100")
	wantLine(t, deskWithWhole(inMiddle(100, 100, 100, 100, 100, 100)), "det", "1000000000000")
	wantLine(t, deskWithWhole(integers(1, 1, 0)), "det", "0")
	wantLine(t, deskWithWhole(integers(1, 3, 5, 1000000, -7)), "reals", "ok", changedDesk(func(d *impl.Desk) {
		d.Whole, d.Matrix = integers(1, 3, 5, 1000000, -7), matrix(1, 3, 5, 1000000, -7)
	}))
	wide := deskWithMatrix(matrix(1, 6, 0.5, -0.5, 1.25, 0, 999999.5, -1000000))
	rounded := wide
	rounded.Whole = integers(1, 6, 1, 0, 1, 0, 1000000, -1000000)
	wantLine(t, wide, "round 3f800000", "ok", rounded)
}

func TestLinesAtOtherDesks(t *testing.T) {
	refused := map[string][]impl.Desk{
		"times":            {deskWithVector(1), deskWithVector(1, 2, 3), deskWithMatrix(matrix(2, 1, 1, 2)), deskWithMatrix(filled(1, 3, 1)), greatDesk(), changedDesk(func(d *impl.Desk) { d.Matrix, d.Vector = filled(2, 2, greatest), []float32{1, 1} })},
		"trace":            {deskWithMatrix(matrix(1, 2, 1, 2)), deskWithMatrix(matrix(2, 1, 1, 2)), deskWithMatrix(middle(greatest, greatest))},
		"norms":            {deskWithMatrix(matrix(1, 2, greatest, greatest)), deskWithMatrix(matrix(2, 1, greatest, greatest)), deskWithMatrix(matrix(1, 1, 1e30)), greatDesk()},
		"signs":            {deskWithMatrix(matrix(1, 2, 1, 2)), deskWithMatrix(matrix(2, 1, 1, 2)), deskWithMatrix(middle(greatest, greatest)), deskWithMatrix(matrix(2, 2, 0, 1e30, 1e30, 0))},
		"even":             {deskWithMatrix(matrix(1, 2, 1, 2)), deskWithMatrix(matrix(2, 1, 1, 2)), deskWithMatrix(matrix(2, 2, 0, greatest, greatest, 0))},
		"power 2":          {deskWithMatrix(matrix(1, 2, 1, 2)), deskWithMatrix(matrix(2, 1, 1, 2)), deskWithMatrix(matrix(1, 1, 1e30))},
		"power 0":          {deskWithMatrix(matrix(1, 2, 1, 2))},
		"exp 4":            {deskWithMatrix(matrix(1, 2, 1, 2)), deskWithMatrix(matrix(2, 1, 1, 2)), deskWithMatrix(matrix(1, 1, 200))},
		"values 1":         {deskWithMatrix(matrix(2, 2, 1, 2, 3, 4)), deskWithMatrix(matrix(1, 2, 1, 2)), deskWithMatrix(matrix(2, 1, 1, 2))},
		"singular 1":       {deskWithMatrix(matrix(1, 2, 1, 2)), deskWithMatrix(matrix(2, 2, 1e30, 0, 0, 1))},
		"value 0":          {deskWithChain(chain([]float32{greatest, 1}, greatest))},
		"below 00000000":   {deskWithChain(chain([]float32{0, 0, 0}, greatest, greatest))},
		"solve":            {deskWithVector(1), deskWithVector(1, 2, 3), deskWithChain(chain([]float32{0, 1}, 1)), deskWithChain(chain([]float32{0}))},
		"det":              {deskWithWhole(integers(1, 2, 1, 2)), deskWithWhole(integers(2, 1, 1, 2)), deskWithWhole(integers(1, 1, 101)), deskWithWhole(integers(1, 1, -101)), greatDesk()},
		"normal":           {deskWithWhole(allOf(5, 1, 1)), deskWithWhole(allOf(1, 5, 1)), deskWithWhole(integers(1, 1, 101)), greatDesk()},
		"echelon":          {deskWithWhole(integers(2, 2, 1, 1000000, -2, 1000000))},
		"round 3f800000":   {deskWithMatrix(matrix(7, 1, 1, 1, 1, 1, 1, 1, 1)), deskWithMatrix(matrix(1, 7, 1, 1, 1, 1, 1, 1, 1)), deskWithMatrix(matrix(1, 1, 1000001)), deskWithMatrix(matrix(1, 1, -1000001)), deskWithMatrix(matrix(1, 1, greatest))},
		"round 7f7fffff":   {newDesk()},
		"mul 1,1;3f800000": {newDesk(), deskWithMatrix(matrix(1, 3, 1, 2, 3))}, "mul 2,2;7f7fffff,7f7fffff,7f7fffff,7f7fffff": {newDesk()}, "mul 1,2;3f800000,3f800000": {newDesk()},
	}
	for line, desks := range refused {
		for _, d := range desks {
			wantLine(t, d, line, "no")
		}
	}
}

// forms are lines of each form of the table that can be carried out at a new desk.
func forms() []string {
	return []string{
		"matrix 1,1;3f800000", "vector 3f800000", "chain 3f800000;none", "whole 1,1;1", "matrix", "vector", "chain", "whole", "flip", "mul 2,1;3f800000,3f800000", "power 2", "exp 2", "even", "times", "trace", "norms",
		"values 2", "singular 2", "signs", "below 40000000", "value 1", "solve", "det", "normal", "rank 5", "echelon", "round 3f800000", "reals",
	}
}

func TestForms(t *testing.T) {
	d := newDesk()
	for _, line := range forms() {
		_, out, ok := impl.DeskCommand(d, line)
		wantBool(t, line+" can be carried out", ok && out != "no" && out != "what" && out != "", true)
		name, word, two := strings.Cut(line, " ")
		alone := strings.Contains(" matrix vector chain whole ", " "+name+" ")
		for _, more := range []string{line + " x", line + " x y", line + " " + line, line + " ", line + "  ", line + "\t", line + "\n", line + "\x00"} {
			switch {
			case two && strings.Count(more, " ") == 1, alone && strings.Count(more, " ") == 1: // another word
				wantLine(t, d, more, "no")
			default:
				wantLine(t, d, more, "what")
			}
		}
		for _, other := range []string{" " + line, "  " + line, "\t" + line, "\n" + line, "x " + line, strings.ToUpper(line), strings.ToUpper(line[:1]) + line[1:], line[1:], "x" + line, strings.Replace(line, name, name+"x", 1), strings.Replace(line, name, name[:len(name)-1], 1)} {
			if name == "values" && strings.HasPrefix(other, "value ") { // this is another form
				continue
			}
			wantLine(t, d, other, "what")
		}
		if two {
			wantLine(t, d, name+"  "+word, "what")
			wantLine(t, d, name+" "+word+" ", "what")
			wantLine(t, d, name+"\t"+word, "what")
			wantLine(t, d, name+word, "what")
			wantLine(t, d, name+" ", "no")
			wantLine(t, d, name+"  ", "what")
			if !alone {
				wantLine(t, d, name, "what")
			}
		}
	}
}

func TestLinesThatAreNone(t *testing.T) {
	d := newDesk()
	for _, line := range []string{
		"", " ", "  ", "\n", "\t", "\x00", "\xff", "none", "no", "what", "ok", "x", "matri", "matrices", "det.", "det\r", "\u00a0det", "det\u00a0", "d e t", "journal", "run", "half", "inverse", "rows 2", "adjoint", "columns", "value", "values", "power", "exp", "mul", "singular", "below", "rank", "round",
		"flip 1", "even 2", "times 3f800000", "trace 1", "norms 1", "signs 1", "signs now", "solve 3f800000", "det 2", "normal 1", "echelon 1", "reals 3f800000", "power 2 2", "mul 1,1;3f800000 x", "matrix 1,1;3f800000 x", "vector 3f800000 3f800000", "whole 1,1;1 1", "chain 3f800000; none",
		strings.Repeat(" ", 20000), strings.Repeat("det ", 20000), strings.Repeat("x", 1<<20), "3f800000", "2,2;2,4,6,8",
	} {
		wantLine(t, d, line, "what")
	}
	for _, line := range []string{"matrix " + strings.Repeat("x", 1<<20), "vector " + strings.Repeat("3f800000,", 1<<17), "whole " + strings.Repeat(";", 1<<20), "power " + strings.Repeat("1", 1<<20), "below " + strings.Repeat("0", 1<<20), "power \xff", "mul \x00"} {
		wantLine(t, d, line, "no")
	}
}

func TestWordsOfNumbers(t *testing.T) {
	d := newDesk()
	for _, name := range []string{"power", "exp", "values", "singular", "value", "rank"} {
		for _, word := range []string{
			"", "-", "+", "+1", "-1", "-0", "+0", "01", "00", "02", "007", "1x", "x1", "x", "1.0", "1.", ".1", "1e0", "0x1", "1_0", "1,1", "1;", "none", "\u0661", "1\n", "\n1", "1\t", "1\x00", "\xff", "3f800000",
			"1000000000000000", "1000000000000001", "-1000000000000000", "-1000000000000001", "4294967297", "9223372036854775807", "9223372036854775808", "18446744073709551617", "-9223372036854775808", strings.Repeat("9", 1000),
		} {
			wantLine(t, d, name+" "+word, "no")
		}
	}
	unit := deskWithMatrix(middle(1, 1))
	for _, line := range []string{"power 65", "exp 0", "exp 33", "values 65", "singular 65", "value 2", "value 12", "rank 0", "rank 1", "rank 4", "rank 998", "rank 1009", "rank 1000"} {
		wantLine(t, unit, line, "no")
	}
	for _, line := range []string{"power 0", "power 64"} {
		wantLine(t, unit, line, "ok", unit)
	}
	for _, line := range []string{"values 0", "values 64", "singular 0", "singular 64"} {
		wantLine(t, unit, line, "3f800000,3f800000")
	}
	for _, line := range []string{"rank 3", "rank 5", "rank 991", "rank 997"} {
		wantLine(t, unit, line, "2")
	}
}

func TestWordsOfSingleNumbers(t *testing.T) {
	d := newDesk()
	for _, name := range []string{"below", "round"} {
		for _, word := range []string{
			"", "none", "3f800000,3f800000", "3f800000,none", ",", "3f800000,", ",3f800000", "3f80000", "3f8000000", "3F800000", "3f80000g", "1", "0", "1.0", "-1", "+3f80000", "3f800000\n", "3f800000;", "\xff",
			"7f800000", "ff800000", "7fc00000", "ffc00000", "7f800001", slowNumbers(repeated[float32](1, 256)), slowNumbers(repeated[float32](1, 257)),
		} {
			wantLine(t, d, name+" "+word, "no")
		}
	}
}

func TestDesksThatAreNone(t *testing.T) {
	journal := slowJournal([]string{"det"})
	for _, d := range notDesks() {
		for _, line := range []string{"", "det", "matrix", "vector", "chain", "whole", "x", "vector 3f800000", "matrix 1,1;3f800000"} {
			got, out, ok := impl.DeskCommand(d, line)
			wantNoDesk(t, "DeskCommand at "+toldDesk(d), got, ok)
			wantBool(t, "no output", out == "", true)
		}
		for _, script := range []string{"", "det\n", "\n"} {
			got, out, ok := impl.RunDesk(d, script)
			wantNoDesk(t, "RunDesk at "+toldDesk(d), got, ok)
			wantBool(t, "no outputs", out == "", true)
		}
		for _, text := range []string{"", journal, "x"} {
			got, count, ok := impl.RunJournal(d, text)
			wantNoDesk(t, "RunJournal at "+toldDesk(d), got, ok)
			wantBool(t, "no lines", count == 0, true)
		}
	}
}
