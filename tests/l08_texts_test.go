package tests

import (
	"strings"
	"testing"

	"loop.example/g01327/impl"
)

func TestMatrixText(t *testing.T) {
	cases := []struct {
		a    impl.Matrix
		want string
	}{
		{matrix(1, 2, 1, 2), "1,2;3f800000,40000000"}, {matrix(2, 1, 1, 2), "2,1;3f800000,40000000"}, {matrix(1, 1, 0), "1,1;00000000"}, {matrix(1, 1, minusZero), "1,1;80000000"},
		{matrix(2, 2, 1, -2, greatest, number(1)), "2,2;3f800000,c0000000,7f7fffff,00000001"}, {matrix(1, 1, number(0x807fffff)), "1,1;807fffff"},
		{filled(12, 12, 1), "12,12;" + strings.Repeat("3f800000,", 143) + "3f800000"}, {filled(12, 1, -greatest), "12,1;" + strings.Repeat("ff7fffff,", 11) + "ff7fffff"},
		{filled(1, 12, 0), "1,12;" + strings.Repeat("00000000,", 11) + "00000000"}, {filled(3, 4, 1), "3,4;" + strings.Repeat("3f800000,", 11) + "3f800000"},
	}
	for _, c := range cases {
		text, ok := impl.MatrixText(c.a)
		wantBool(t, "MatrixText "+c.want, ok && text == c.want && text == slowMatrixText(c.a), true)
		back, ok := impl.ReadMatrix(c.want)
		wantMatrix(t, "ReadMatrix "+c.want, back, ok, c.a)
	}
	for _, a := range notMatrices() {
		text, ok := impl.MatrixText(a)
		wantBool(t, "MatrixText of "+toldMatrix(a), ok || text != "", false)
		back, ok := impl.ReadMatrix(slowMatrixText(a))
		wantNoMatrix(t, "ReadMatrix "+slowMatrixText(a), back, ok)
	}
}

// spoilt returns texts of two lists that no writer has written, made of one that one has.
func spoilt(text string) []string {
	former, latter, _ := strings.Cut(text, ";")
	list := []string{
		former, latter, former + latter, former + "," + latter, former + ";", ";" + latter, former + ";;" + latter, ";" + text, text + ";", text + ";" + latter, former + ";" + text, former + " ;" + latter, former + "; " + latter, " " + text, text + " ", text + "\n", text + ",", former + ",;" + latter,
		former + ":" + latter, former + ";," + latter, "," + text, former + ";none", "none;" + latter, former + ";none," + latter, former + ";" + latter + ",none", former + "\x00;" + latter, former + ";" + latter + "\x00", former + ";" + latter + "," + latter, former + "," + former + ";" + latter,
	}
	for i := range text { // without a byte
		list = append(list, text[:i]+text[i+1:])
	}
	return list
}

func noTexts() []string {
	return []string{"", ";", ";;", " ", "\n", "none", "none;none", "none;", ";none", "None;none", "x", "x;x", "1", "1,1", "0;0", "\xff;\xff", strings.Repeat(";", 1000), strings.Repeat("1,", 1000), strings.Repeat("1,", 1000) + ";" + strings.Repeat("1,", 1000)}
}

func TestNoMatrixText(t *testing.T) {
	list := append(noTexts(), spoilt("1,2;3f800000,40000000")...)
	list = append(list,
		"1;3f800000", "1,1,1;3f800000", "1,1,1,1;3f800000", "01,1;3f800000", "1,01;3f800000", "+1,1;3f800000", "-1,-1;3f800000", "1,1;1", "1,1;3F800000", "1,1;3f80000g", "1.0,1;3f800000", "1,1;0,0", "3f800000,3f800000;1,1",
		"0,0;none", "0,1;none", "1,0;none", "2,2;3f800000", "1,1;3f800000,3f800000", "2,1;3f800000", "1,2;3f800000,3f800000,3f800000", "1,1;7f800000", "1,1;ff800000", "1,1;7fc00000", "1,1;ffc00000", "1,1;7f800001", "1,2;3f800000,7f800000",
		"13,1;"+strings.Repeat("3f800000,", 12)+"3f800000", "1,13;"+strings.Repeat("3f800000,", 12)+"3f800000", "4294967297,1;3f800000", "1000000000000000,1;3f800000", "1000000000000001,1;3f800000", "9223372036854775807,9223372036854775807;3f800000", "9223372036854775808,1;3f800000", "4294967296,4294967296;none",
	)
	for _, text := range list {
		a, ok := impl.ReadMatrix(text)
		wantNoMatrix(t, "ReadMatrix "+text, a, ok)
	}
}

func wantNoChain(t *testing.T, what string, got impl.Chain, ok bool) {
	t.Helper()
	if ok || toldChain(got) != toldChain(impl.Chain{}) {
		t.Errorf("%s: got %s %v, want nothing", what, toldChain(got), ok)
	}
}

func TestChainText(t *testing.T) {
	cases := []struct {
		c    impl.Chain
		want string
	}{
		{chain([]float32{1}), "3f800000;none"}, {chain([]float32{minusZero}, []float32{}...), "80000000;none"}, {chain([]float32{2, 3}, 1), "40000000,40400000;3f800000"}, {chain([]float32{0, greatest, number(1)}, minusZero, -1), "00000000,7f7fffff,00000001;80000000,bf800000"},
		{chain(repeated[float32](1, 12), repeated[float32](2, 11)...), strings.Repeat("3f800000,", 11) + "3f800000;" + strings.Repeat("40000000,", 10) + "40000000"},
	}
	for _, c := range cases {
		text, ok := impl.ChainText(c.c)
		wantBool(t, "ChainText "+c.want, ok && text == c.want && text == slowChainText(c.c), true)
		back, ok := impl.ReadChain(c.want)
		wantBool(t, "ReadChain "+c.want, ok && toldChain(back) == toldChain(c.c), true)
	}
	for _, c := range notChains() {
		text, ok := impl.ChainText(c)
		wantBool(t, "ChainText of "+toldChain(c), ok || text != "", false)
		back, ok := impl.ReadChain(slowChainText(c))
		wantNoChain(t, "ReadChain "+slowChainText(c), back, ok)
	}
	list := append(noTexts(), spoilt("40000000,40400000;3f800000")...)
	list = append(list, "3f800000;3f800000", "3f800000", "3f800000;", "3f800000;None", "3F800000;none", "1;none", "1,1;3f800000", "7fc00000;none", "ffc00000;none", "3f800000,3f800000;7f800001", "none;3f800000", "3f800000;none;none", "3f800000;none,none")
	for _, text := range list {
		c, ok := impl.ReadChain(text)
		wantNoChain(t, "ReadChain "+text, c, ok)
	}
}

func TestWholeText(t *testing.T) {
	cases := []struct {
		w    impl.Whole
		want string
	}{
		{integers(2, 2, 2, 4, 6, 8), "2,2;2,4,6,8"}, {integers(1, 1, 0), "1,1;0"}, {integers(1, 1, -7), "1,1;-7"}, {integers(1, 2, 1000000, -1000000), "1,2;1000000,-1000000"}, {integers(2, 1, 10, -100), "2,1;10,-100"},
		{allOf(6, 6, -1000000), "6,6;" + strings.Repeat("-1000000,", 35) + "-1000000"}, {allOf(6, 1, 1), "6,1;1,1,1,1,1,1"}, {allOf(1, 6, 1), "1,6;1,1,1,1,1,1"}, {allOf(3, 2, 5), "3,2;5,5,5,5,5,5"},
	}
	for _, c := range cases {
		text, ok := impl.WholeText(c.w)
		wantBool(t, "WholeText "+c.want, ok && text == c.want && text == slowWholeText(c.w), true)
		back, ok := impl.ReadWhole(c.want)
		wantWhole(t, "ReadWhole "+c.want, back, ok, c.w)
	}
	for _, w := range notWholes() {
		text, ok := impl.WholeText(w)
		wantBool(t, "WholeText of "+toldWhole(w), ok || text != "", false)
		back, ok := impl.ReadWhole(slowWholeText(w))
		wantNoWhole(t, "ReadWhole "+slowWholeText(w), back, ok)
	}
}

func TestNoWholeText(t *testing.T) {
	list := append(noTexts(), spoilt("1,2;13,57")...)
	list = append(list,
		"1;1", "1,1,1;1", "01,1;1", "1,1;01", "1,1;+1", "1,1;-0", "1,1;00", "1,1; 1", "1,1;1.0", "1,1;1e0", "1,1;0x1", "1,1;a", "1,1;3f800000", "0,0;none", "0,1;none", "-1,-1;1", "2,2;1,2,3", "2,2;1,2,3,4,5", "2,1;1", "1,1;1,1",
		"1,1;1000001", "1,1;-1000001", "1,1;1000000000000000", "1,1;1000000000000001", "1,1;9223372036854775808", "7,1;1,1,1,1,1,1,1", "1,7;1,1,1,1,1,1,1", "7,7;"+strings.Repeat("1,", 48)+"1", "4294967297,1;1", "1,1;none",
	)
	for _, text := range list {
		if text == "1,2;1,57" || text == "1,2;3,57" || text == "1,2;13,5" || text == "1,2;13,7" { // these are some
			continue
		}
		w, ok := impl.ReadWhole(text)
		wantNoWhole(t, "ReadWhole "+text, w, ok)
	}
}
