package tests

import (
	"fmt"
	"strings"
	"testing"

	"loop.example/g01327/impl"
)

func wantRun(t *testing.T, d impl.Desk, script, outputs string, after impl.Desk) {
	t.Helper()
	got, out, ok := impl.RunDesk(d, script)
	wantDesk(t, fmt.Sprintf("the desk after %.99q", script), got, ok, after)
	if out != outputs {
		t.Errorf("RunDesk %.99q: got %.999q, want %.999q", script, out, outputs)
	}
}

func wantNoRun(t *testing.T, script string) {
	t.Helper()
	got, out, ok := impl.RunDesk(newDesk(), script)
	wantNoDesk(t, fmt.Sprintf("RunDesk %.99q", script), got, ok)
	wantBool(t, "no outputs", out == "", true)
}

func TestRunDesk(t *testing.T) {
	d := newDesk()
	wantRun(t, d, "", "", d)
	wantRun(t, greatDesk(), "", "", greatDesk())
	wantRun(t, d, "det\nnormal\nbelow 40000000\n", "-8\n2,4\n1\n", d) // the examples of the chapter
	wantRun(t, d, "\n", "what\n", d)
	wantRun(t, d, "\n\n\n", "what\nwhat\nwhat\n", d)
	wantRun(t, d, "\ndet\n\n", "what\n-8\nwhat\n", d)
	wantRun(t, d, "det\n \ndet \n det\n", "-8\nwhat\nwhat\nwhat\n", d)
	wantRun(t, d, "det\r\ndet\n", "what\n-8\n", d)
	wantRun(t, d, "\x00\n\xff\ndet\n", "what\nwhat\n-8\n", d)
	// each line is carried out at the desk that the one before has left
	wantRun(t, d, "times\nvector\ntimes\nvector\n", "ok\n40000000,3f800000\nok\n40a00000,40800000\n", deskWithVector(5, 4))
	wantRun(t, d, "matrix 1,1;40000000\npower 3\nvector\ntrace\nmul 1,2;3f800000,c0000000\ntrace\nmatrix\n", "ok\nok\n3f800000,00000000\n41000000\nok\nno\n1,2;41000000,c1800000\n", deskWithMatrix(matrix(1, 2, 8, -16)))
	wantRun(t, d, "echelon\nwhole\ndet\nreals\nmatrix\nwhole 2,1;1000000,5\ndet\nreals\n", "ok\n2,2;2,0,0,4\n8\nok\n2,2;40000000,00000000,00000000,40800000\nok\nno\nok\n", changedDesk(func(d *impl.Desk) {
		d.Whole, d.Matrix = integers(2, 1, 1000000, 5), matrix(2, 1, 1000000, 5)
	}))
	// what cannot be carried out changes nothing, and what follows is carried out
	wantRun(t, d, "vector none\nvector\nmatrix 0,0;none\nmatrix\nchain none;none\nchain\nwhole 1,1;x\nwhole\npower 65\nmatrix 1\nx\nflip\nmatrix\n", "no\n3f800000,00000000\nno\n2,2;40000000,3f800000,3f800000,40000000\nno\n40000000,40000000;3f800000\nno\n2,2;2,4,6,8\nno\nno\nwhat\nok\n2,2;40000000,3f800000,3f800000,40000000\n", d)
	for _, script := range []string{"det", " ", "x", "det\ndet", "\ndet", "\n ", "det\n\ndet", "det\r", "det\n\x00", "vector 3f800000\nvector"} {
		wantNoRun(t, script)
	}
}

func TestRunDeskLimits(t *testing.T) {
	d := newDesk()
	most := strings.Repeat("det\n", 4000)
	wantBool(t, "the script has MaxScript bytes", len(most) == 16000 && impl.MaxScript == 16000, true)
	wantRun(t, d, most, strings.Repeat("-8\n", 4000), d)
	wantRun(t, d, strings.Repeat("\n", 16000), strings.Repeat("what\n", 16000), d)
	wantRun(t, d, strings.Repeat("x", 15999)+"\n", "what\n", d)
	wantRun(t, d, "mul "+strings.Repeat("x", 15995)+"\n", "no\n", d)
	wantRun(t, d, most[:15996], strings.Repeat("-8\n", 3999), d)
	wantNoRun(t, most+"\n")
	wantNoRun(t, "\n"+most)
	wantNoRun(t, strings.Repeat("\n", 16001))
	wantNoRun(t, strings.Repeat("x", 16000)+"\n")
	wantNoRun(t, strings.Repeat("x", 16000))
	wantNoRun(t, strings.Repeat("det\n", 1<<18))
	// outputs may be longer than a script
	great := greatDesk()
	wantRun(t, great, strings.Repeat("matrix\n", 2285), strings.Repeat(slowMatrixText(great.Matrix)+"\n", 2285), great)
	wantRun(t, great, strings.Repeat("vector\n", 2285), strings.Repeat(slowNumbers(great.Vector)+"\n", 2285), great)
}

func wantCounts(t *testing.T, text string, refused, others int64) {
	t.Helper()
	a, b, ok := impl.CountOutputs(text)
	if !ok || a != refused || b != others {
		t.Errorf("CountOutputs %.99q: got %d %d %v, want %d %d", text, a, b, ok, refused, others)
	}
}

func TestCountOutputs(t *testing.T) {
	wantCounts(t, "", 0, 0)
	wantCounts(t, "no\n", 1, 0)
	wantCounts(t, "what\n", 1, 0)
	wantCounts(t, "ok\n", 0, 1)
	wantCounts(t, "no\nok\nwhat\n-8\n2,4\nno\n", 3, 3)
	wantCounts(t, "\n", 0, 1)
	wantCounts(t, "\n\nno\n\n", 1, 3)
	wantCounts(t, "now\nwhatever\nnone\nno \n no\nwhat?\nwhat \n what\nNo\nWHAT\nn\no\nwha\nhat\nnono\nno no\nnowhat\nno,what\nno\r\nwhat\x00\nno\tno\n", 0, 21)
	wantCounts(t, strings.Repeat("what\n", 3200), 3200, 0)
	wantCounts(t, strings.Repeat("\n", 16000), 0, 16000)
	wantCounts(t, strings.Repeat("no\n", 5333)+"\n", 5333, 1)
	wantCounts(t, strings.Repeat("x", 15999)+"\n", 0, 1)
	for _, text := range []string{
		"no", "what", "ok", " ", "x", "no\nno", "\nno", "\nwhat", "ok\n ", "no\n\x00", "no\r",
		strings.Repeat("\n", 16001), strings.Repeat("what\n", 3200) + "\n", strings.Repeat("no\n", 5334), strings.Repeat("x", 16000) + "\n", strings.Repeat("x", 16000), strings.Repeat("no\n", 1<<18),
	} {
		a, b, ok := impl.CountOutputs(text)
		wantBool(t, fmt.Sprintf("CountOutputs %.99q", text), ok || a != 0 || b != 0, false)
	}
}
