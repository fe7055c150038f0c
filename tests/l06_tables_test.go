package tests

import (
	"fmt"
	"slices"
	"testing"

	"loop.example/g01327/impl"
)

// integer returns an integer that is small, with the kind 1 low, with 2 often 0, and with 3 any.
func (d *dice) integer(kind int) int64 {
	n := d.next()
	switch kind {
	case 1:
		return n%201 - 100
	case 2:
		if n%3 > 0 {
			return 0
		}
		return d.next()%19 - 9
	case 3:
		return (n*32768+d.next())%2000001 - 1000000
	}
	return n%7 - 3
}

// whole returns integers whose last row depends on others, sometimes.
func (d *dice) whole(kind int, rows, columns int64) impl.Whole {
	w := allOf(rows, columns, 0)
	for i := range w.Numbers {
		w.Numbers[i] = d.integer(kind)
	}
	if rows > 1 && d.next()%3 == 0 {
		for k := range columns {
			last := -w.Numbers[k]
			if rows > 2 && kind%2 == 0 {
				last += w.Numbers[columns+k]
			}
			w.Numbers[(rows-1)*columns+k] = last
		}
	}
	return w
}

// indices returns a set of count of n indices.
func (d *dice) indices(n, count int64) []int64 {
	list := d.order(n)[:count]
	slices.Sort(list)
	return list
}

// wholeInput is what the functions of chapter 6 are told of in the tables.
type wholeInput struct {
	w, other, square, few, short impl.Whole
	rows, columns, v             []int64
	a                            impl.Matrix
	by                           float32
	p, steps, reach              int64
}

func wholeInputs(kind int, seed int64) wholeInput {
	d := &dice{seed}
	side := func(most int64) int64 { return 1 + d.next()%most }
	rows, columns, others := side(6), side(6), side(6)
	in := wholeInput{w: d.whole(kind, rows, columns)}
	in.other = d.whole(kind, columns, others)
	n := side(6)
	in.square = d.whole(kind, n, n)
	few, fewColumns := side(4), side(4)
	in.few = d.whole(kind, few, fewColumns)
	long := side(6)
	in.short = d.whole(kind, side(min(4, long)), long)
	count := side(min(rows, columns))
	in.rows = d.indices(rows, count)
	in.columns = d.indices(columns, count)
	for range rows {
		in.v = append(in.v, d.integer(kind))
	}
	in.a = matrix(rows, columns)
	for range rows * columns {
		in.a.Numbers = append(in.a.Numbers, float32(d.next()-16384)/64)
	}
	in.by = float32(d.next()-16384) / 8192
	if kind == 3 {
		in.by *= 2048
	}
	in.p = []int64{2, 3, 5, 7, 11, 13, 991, 997}[d.next()%8]
	in.steps = []int64{0, 1, 2, 5, 1000}[d.next()%5]
	in.reach = side(3)
	return in
}

// wholeTexts tells the results of the functions of chapter 6.
func wholeTexts(in wholeInput) map[string]string {
	texts, tell := telling()
	tellWholes(in, tell)
	tellDeterminants(in, tell)
	tellOver(in, tell)
	short, made, ok := impl.ShortRows(in.short, in.steps)
	tell("ShortRows", ok, toldWhole(short), made)
	list, squares, ok := impl.ShortestOf(in.short, in.reach)
	tell("ShortestOf", ok, list, squares)
	return texts
}

func tellWholes(in wholeInput, tell teller) {
	w, ok := impl.FlipWhole(in.w)
	tell("FlipWhole", ok, toldWhole(w))
	w, ok = impl.MulWholes(in.w, in.other)
	tell("MulWholes", ok, toldWhole(w))
	w, ok = impl.WholeOf(in.a, in.by)
	tell("WholeOf", ok, toldWhole(w))
	a, ok := impl.MatrixOf(in.w)
	tell("MatrixOf", ok, toldMatrix(a))
	w, ok = impl.GramOf(in.w)
	tell("GramOf", ok, toldWhole(w))
	n, ok := impl.ContentOf(in.w)
	tell("ContentOf", ok, n)
	n, ok = impl.GcdOf(in.w.Numbers[0], in.v[0])
	tell("GcdOf", ok, n)
	h, u, ok := impl.EchelonOf(in.w)
	tell("EchelonOf", ok, toldWhole(h), toldWhole(u))
}

func tellDeterminants(in wholeInput, tell teller) {
	n, ok := impl.DetOfWhole(in.square)
	tell("DetOfWhole", ok, n)
	n, ok = impl.MinorOfWhole(in.w, in.rows, in.columns)
	tell("MinorOfWhole", ok, n)
	w, ok := impl.AdjointOf(in.square)
	tell("AdjointOf", ok, toldWhole(w))
	list, ok := impl.CharactersOf(in.square)
	tell("CharactersOf", ok, list)
	list, ok = impl.NormalOf(in.few)
	tell("NormalOf", ok, list)
}

func tellOver(in wholeInput, tell teller) {
	n, ok := impl.BackOver(in.v[0], in.p)
	tell("BackOver", ok, n)
	n, ok = impl.RankOver(in.w, in.p)
	tell("RankOver", ok, n)
	n, ok = impl.DetOver(in.square, in.p)
	tell("DetOver", ok, n)
	nulls, ok := impl.NullOver(in.w, in.p)
	tell("NullOver", ok, nulls)
	list, ok := impl.SolveOver(in.w, in.v, in.p)
	tell("SolveOver", ok, list)
}

func TestTableOfWholes(t *testing.T) {
	rows := []struct {
		kind int
		seed int64
		want map[string]string
	}{
		{0, 142, map[string]string{
			"FlipWhole":    "4 x 4 [1 1 3 -1 2 -3 2 -2 0 -2 -1 0 0 1 -3 -1]",
			"MulWholes":    "4 x 3 [-3 4 2 -1 3 2 -1 17 -1 5 -2 -4]",
			"WholeOf":      "4 x 4 [-52 53 -52 -14 -13 -45 20 0 17 24 -13 -39 -35 -47 -11 23]",
			"MatrixOf":     "4 x 4 [3f800000 40000000 00000000 00000000 3f800000 c0400000 c0000000 3f800000 40400000 40000000 bf800000 c0400000 bf800000 c0000000 00000000 bf800000]",
			"GramOf":       "4 x 4 [5 -5 7 -5 -5 15 -4 4 7 -4 23 -4 -5 4 -4 6]",
			"ContentOf":    "1",
			"GcdOf":        "1",
			"EchelonOf":    "4 x 4 [1 0 1 0 0 1 1 0 0 0 3 0 0 0 0 1] 4 x 4 [-17 -2 3 -11 -6 -1 1 -4 -30 -4 5 -19 -1 0 0 -1]",
			"DetOfWhole":   "5",
			"MinorOfWhole": "3",
			"AdjointOf":    "3 x 3 [-5 -2 3 0 1 1 0 2 -3]",
			"CharactersOf": "[-1 -7 -5]",
			"NormalOf":     "[1 2]",
			"BackOver":     "1",
			"RankOver":     "3",
			"DetOver":      "2",
			"NullOver":     "[[2 2 1 0]]",
			"SolveOver":    "[0 2 0 2]",
			"ShortRows":    "4 x 6 [-1 2 -1 -1 -1 -2 1 -1 -1 3 -1 -3 -2 -1 2 -2 -2 -1 0 -1 2 -1 -2 -3] 2",
			"ShortestOf":   "[1 1 1 -2 1 1] 9",
		}},
		{1, 61, map[string]string{
			"FlipWhole":    "3 x 1 [52 -85 -2]",
			"MulWholes":    "1 x 1 [3089]",
			"WholeOf":      "1 x 3 [-2 9 1]",
			"MatrixOf":     "1 x 3 [42500000 c2aa0000 c0000000]",
			"GramOf":       "1 x 1 [9933]",
			"ContentOf":    "1",
			"GcdOf":        "1",
			"EchelonOf":    "1 x 3 [52 -85 -2] 1 x 1 [1]",
			"DetOfWhole":   "-91",
			"MinorOfWhole": "-2",
			"AdjointOf":    "1 x 1 [1]",
			"CharactersOf": "[91]",
			"NormalOf":     "[1 1 1 0]",
			"BackOver":     "725",
			"RankOver":     "1",
			"DetOver":      "906",
			"NullOver":     "[[596 1 0] [882 0 1]]",
			"SolveOver":    "[134 0 0]",
			"ShortRows":    "1 x 5 [75 73 15 -7 -94] 0",
			"ShortestOf":   "[-75 -73 -15 7 94] 20064",
		}},
		{2, 10, map[string]string{
			"FlipWhole":    "3 x 2 [0 0 2 0 0 0]",
			"MulWholes":    "2 x 2 [-14 0 0 0]",
			"WholeOf":      "2 x 3 [194 183 152 -9 -76 -79]",
			"MatrixOf":     "2 x 3 [00000000 40000000 00000000 00000000 00000000 00000000]",
			"GramOf":       "2 x 2 [4 0 0 0]",
			"ContentOf":    "2",
			"GcdOf":        "8",
			"EchelonOf":    "2 x 3 [0 2 0 0 0 0] 2 x 2 [1 0 0 1]",
			"DetOfWhole":   "0",
			"MinorOfWhole": "0",
			"AdjointOf":    "2 x 2 [0 0 0 0]",
			"CharactersOf": "[0 0]",
			"NormalOf":     "[2 0 0]",
			"BackOver":     "3",
			"RankOver":     "1",
			"DetOver":      "0",
			"NullOver":     "[[1 0 0] [0 0 1]]",
			"SolveOver":    "[0 1 0]",
			"ShortRows":    "2 x 6 [2 0 6 0 0 0 -9 0 0 0 0 0] 2",
			"ShortestOf":   "[2 0 6 0 0 0] 40",
		}},
		{3, 65, map[string]string{
			"FlipWhole":    "2 x 1 [587704 618945]",
			"MulWholes":    "fail",
			"WholeOf":      "1 x 2 [41179 40999]",
			"MatrixOf":     "1 x 2 [490f7b80 49171c10]",
			"GramOf":       "fail",
			"ContentOf":    "1",
			"GcdOf":        "2",
			"EchelonOf":    "1 x 2 [587704 618945] 1 x 1 [1]",
			"DetOfWhole":   "fail",
			"MinorOfWhole": "fail",
			"AdjointOf":    "fail",
			"CharactersOf": "fail",
			"NormalOf":     "fail",
			"BackOver":     "2",
			"RankOver":     "1",
			"DetOver":      "0",
			"NullOver":     "[[0 1]]",
			"SolveOver":    "[2 0]",
			"ShortRows":    "fail",
			"ShortestOf":   "fail",
		}},
	}
	for _, r := range rows {
		got := wholeTexts(wholeInputs(r.kind, r.seed))
		wantTexts(t, fmt.Sprint("kind ", r.kind), got, r.want)
		wantBool(t, "all functions are told", len(got) == len(r.want), true)
	}
}

func TestHashesOfWholes(t *testing.T) {
	hashes := map[string]uint64{
		"FlipWhole":    0xc986e79e2729b44f,
		"MulWholes":    0x7f27e69381c7bc1e,
		"WholeOf":      0xbce0d13dd98b1684,
		"MatrixOf":     0xda0297ce6890cc88,
		"GramOf":       0xef4c79e389e38304,
		"ContentOf":    0x20f45a3eea2bd54b,
		"GcdOf":        0x9d713e41c31bd276,
		"EchelonOf":    0xcaf1d0c9264a28d0,
		"DetOfWhole":   0x93a66cddc89c99eb,
		"MinorOfWhole": 0xe8af7be21d5999a1,
		"AdjointOf":    0xa6ef0643d2649d87,
		"CharactersOf": 0xd9f4b540353453d2,
		"NormalOf":     0x4e9987da65ff2d3d,
		"BackOver":     0x5012b146cd1e8386,
		"RankOver":     0x633b50f1ee25b2ed,
		"DetOver":      0xf2b4b5f58c6fb937,
		"NullOver":     0x21e218170b6fa732,
		"SolveOver":    0xcc32a4fd62ca4980,
		"ShortRows":    0x30f8ee8f620d4627,
		"ShortestOf":   0x67ef48a0709ee0a3,
	}
	var texts []map[string]string
	for kind := range 4 {
		for i := range int64(400) {
			texts = append(texts, wholeTexts(wholeInputs(kind, int64(1000*kind)+i)))
		}
	}
	wantHashes(t, texts, hashes)
}
