package tests

import (
	"fmt"
	"testing"

	"loop.example/g01327/impl"
)

// The tables hold results that were computed apart from the program: those of a few matrices by
// their bits, and those of many by the hash of their texts.

// chosen returns a drawn matrix, and the seed that is left: with the kind 1, its numbers are
// integers, many of which are equal, or zeros, and with 2, some of them are far greater than others.
func chosen(t *testing.T, kind int, rows, columns, seed int64) (impl.Matrix, int64) {
	t.Helper()
	a, next, ok := impl.DrawnMatrix(rows, columns, seed)
	wantBool(t, "DrawnMatrix", ok, true)
	for i, x := range a.Numbers {
		switch kind {
		case 1:
			a.Numbers[i] = float32(int(x * 3))
		case 2:
			shift := i * 11 % 41
			a.Numbers[i] = x * float32(int64(1)<<shift) / (1 << 20)
		}
	}
	return a, next
}

// factorTexts tells the results of the functions of chapter 3 for matrices of n columns.
func factorTexts(t *testing.T, kind int, n, seed int64) map[string]string {
	t.Helper()
	a, seed := chosen(t, kind, n, n, seed)
	tall, seed := chosen(t, kind, min(12, n+2), n, seed)
	row, seed := chosen(t, kind, 1, n, seed)
	column, _ := chosen(t, kind, 1, tall.Rows, seed)
	v, w := row.Numbers, column.Numbers
	flip, _ := impl.FlipMatrix(tall)
	texts, tell := telling()
	f, ok := impl.FactorRows(a)
	tell("FactorRows", ok, toldFactor(f))
	tellFactor(f, a, v, tell)
	condition, ok := impl.ConditionOf(a)
	tell("ConditionOf", ok, toldText(condition))
	left, ok := impl.LongResidual(tall, v, w)
	tell("LongResidual", ok, fmtBits(left))
	x, norms, ok := impl.SolveRefined(a, v, 3)
	tell("SolveRefined", ok, fmtBits(x), fmtBits(norms))
	both, columns, count, ok := impl.FactorBoth(a, 0.5)
	tell("FactorBoth", ok, toldFactor(both), columns, count)
	tellRoots(a, tall, flip, v, tell)
	tellMirrors(a, tall, flip, v, w, tell)
	return texts
}

func toldText(x float32) string {
	return fmt.Sprintf("%08x", told(x))
}

func tellFactor(f impl.Factor, a impl.Matrix, v []float32, tell teller) {
	lower, ok := impl.LowerOf(f)
	tell("LowerOf", ok, toldMatrix(lower))
	upper, ok := impl.UpperOf(f)
	tell("UpperOf", ok, toldMatrix(upper))
	growth, ok := impl.FactorGrowth(a, f)
	tell("FactorGrowth", ok, toldText(growth))
	x, ok := impl.FactorSolve(f, v)
	tell("FactorSolve", ok, fmtBits(x))
	x, ok = impl.FactorSolveFlipped(f, v)
	tell("FactorSolveFlipped", ok, fmtBits(x))
	det, ok := impl.FactorDet(f)
	tell("FactorDet", ok, toldText(det))
	inverse, ok := impl.FactorInverse(f)
	tell("FactorInverse", ok, toldMatrix(inverse))
}

func tellRoots(a, tall, flip impl.Matrix, v []float32, tell teller) {
	square, _ := impl.MulMatrices(flip, tall)
	root, ok := impl.RootOfSquare(square)
	tell("RootOfSquare", ok, toldMatrix(root))
	x, ok := impl.RootSolve(root, v)
	tell("RootSolve", ok, fmtBits(x))
	root, shift, ok := impl.RootShifted(a, 0.01)
	tell("RootShifted", ok, toldMatrix(root), toldText(shift))
	lower, list, ok := impl.MiddleFactor(a)
	tell("MiddleFactor", ok, toldMatrix(lower), fmtBits(list))
}

func tellMirrors(a, tall, flip impl.Matrix, v, w []float32, tell teller) {
	q, r, ok := impl.MirrorFactor(tall)
	tell("MirrorFactor", ok, toldMatrix(q), toldMatrix(r))
	order, count, ok := impl.MirrorRank(tall, 0.25)
	tell("MirrorRank", ok, order, count)
	order, count, ok = impl.MirrorRank(flip, 0.25)
	tell("MirrorRank wide", ok, order, count)
	x, ok := impl.LeastSquares(tall, w)
	tell("LeastSquares", ok, fmtBits(x))
	weights := make([]float32, len(w))
	for i, y := range w {
		weights[i] = y * y
	}
	x, ok = impl.WeighedSquares(tall, w, weights)
	tell("WeighedSquares", ok, fmtBits(x))
	sum, ok := impl.AddRow(a, v)
	tell("AddRow", ok, toldMatrix(sum))
	sum, ok = impl.AddRow(r, v)
	tell("AddRow mirrors", ok, toldMatrix(sum))
	x, ok = impl.UpperSolve(a, v)
	tell("UpperSolve", ok, fmtBits(x))
}

func TestTableOfFactors(t *testing.T) {
	rows := []struct {
		kind    int
		n, seed int64
		want    map[string]string
	}{
		{0, 3, 1, map[string]string{
			"FactorRows":         "3 x 3 [3ecf1000 bf0c1400 bc2c0000 3e2ec9ae 3f7d14fd bf279e90 3d8c5325 bf1e3caf bf496874] [2 1 0]",
			"LowerOf":            "3 x 3 [3f800000 00000000 00000000 3e2ec9ae 3f800000 00000000 3d8c5325 bf1e3caf 3f800000]",
			"UpperOf":            "3 x 3 [3ecf1000 bf0c1400 bc2c0000 00000000 3f7d14fd bf279e90 00000000 00000000 bf496874]",
			"FactorGrowth":       "3f8d5ac6",
			"FactorSolve":        "[3f7e29c0 3f2aa403 be83df4d]",
			"FactorSolveFlipped": "[bec99291 3e39e4d1 bf42dcb5]",
			"FactorDet":          "3ea10caf",
			"FactorInverse":      "3 x 3 [bf960408 3f24e8b3 401c5a9f bf578267 3efb7c1e bcd64cb4 bfa2b1d2 bf4920a1 3e6280b6]",
			"ConditionOf":        "40dbcac4",
			"LongResidual":       "[3e8d1324 3e84a68a 3e0ce5e4 3f089598 3ea9f117]",
			"SolveRefined":       "[3f7e29be 3f2aa402 be83df4e] [33906d63 32846248 32846248]",
			"FactorBoth":         "3 x 3 [3f652c00 bf281400 3d8d6000 bf3977c1 bf5bc114 3d9f2c82 bf1c79f8 3ef59f4f 3ed19362] [1 0 2] [1 2 0] 2",
			"RootOfSquare":       "3 x 3 [3f9eb06c 00000000 00000000 3f3ac90e 3f7166ad 00000000 3e9426f0 3e1a36bf 3f9dada6]",
			"RootSolve":          "[bf5db4a1 3f92bc10 bd09db80]",
			"RootShifted":        "3 x 3 [3f512fc6 00000000 00000000 3dad0353 3f9e3a27 00000000 3efd6689 bef3f424 3ecb3628] 3f23d70a",
			"MiddleFactor":       "3 x 3 [3f800000 00000000 00000000 401f6fa6 3f800000 00000000 416983f2 c0099310 3f800000] [3ce30000 3f3925dc c1141399]",
			"MirrorFactor":       "5 x 3 [bf1afeae bed40186 3c5f4709 beb801ee baeb84ab 3f5e987b 3d69b6fc 3f04f05b 3e24bfd7 3edca1f2 3e85931c 3ec84a21 bf0fc0b4 3f335933 be8260e8] 3 x 3 [3f9eb06c 3f3ac90c 3e9426f0 00000000 3f7166ae 3e1a36c3 00000000 00000000 3f9dada6]",
			"MirrorRank":         "[2 0 1] 3",
			"MirrorRank wide":    "[0 1 4 3 2] 3",
			"LeastSquares":       "[bf38d5db 3f912cd8 3eb03af0]",
			"WeighedSquares":     "[bf38af8b 3fb3129a 3f078a47]",
			"AddRow":             "3 x 3 [3e9d6c00 bf63b01d bd97311f 00000000 3f87e45e beb382c0 00000000 00000000 3f2be4c5]",
			"AddRow mirrors":     "3 x 3 [3fa3753f 3f021e5f 3e8afb48 00000000 3fae89d8 3e3a532a 00000000 00000000 3f9dbd47]",
			"UpperSolve":         "[c2d3884d bfe9d4ef c070be83]",
		}},
		{1, 3, 4, map[string]string{
			"FactorRows":         "3 x 3 [c0000000 3f800000 bf800000 80000000 c0000000 40000000 3f800000 3f000000 c0000000] [0 2 1]",
			"LowerOf":            "3 x 3 [3f800000 00000000 00000000 80000000 3f800000 00000000 3f800000 3f000000 3f800000]",
			"UpperOf":            "3 x 3 [c0000000 3f800000 bf800000 00000000 c0000000 40000000 00000000 00000000 c0000000]",
			"FactorGrowth":       "3f800000",
			"FactorSolve":        "[be800000 bf400000 be800000]",
			"FactorSolveFlipped": "[3f800000 bf800000 00000000]",
			"FactorDet":          "41000000",
			"FactorInverse":      "3 x 3 [bf000000 80000000 be800000 3f000000 bf000000 be800000 3f000000 bf000000 3e800000]",
			"ConditionOf":        "40f00000",
			"LongResidual":       "[40400000 3f800000 40400000 3f800000 00000000]",
			"SolveRefined":       "[be800000 bf400000 be800000] [00000000 00000000 00000000]",
			"FactorBoth":         "3 x 3 [c0000000 3f800000 bf800000 80000000 c0000000 40000000 3f800000 3f000000 c0000000] [0 2 1] [0 1 2] 3",
			"RootOfSquare":       "3 x 3 [402953fd 00000000 00000000 bf91236c 3ff6b012 00000000 c02953fe 3f04d4f2 401935b2]",
			"RootSolve":          "[3e69aa1d 3e708973 3e0293c5]",
			"RootShifted":        "3 x 3 [3fe217d4 00000000 00000000 bf90ee74 3ffac2c0 00000000 00000000 bf82aca3 401dc7b7] 40a3d70a",
			"MiddleFactor":       "fail",
			"MirrorFactor":       "5 x 3 [3ec18490 be97ced1 beb4f8fc 00000000 00000000 bf55e070 3ec18490 bf50bc5e 3e34f8fd 3ec18490 3e63b639 3ebd32d9 3f418490 3ee3b639 bdc56cb7] 3 x 3 [402953fd bf91236b c02953fd 00000000 3ff6b011 3f04d4f6 00000000 00000000 401935b3]",
			"MirrorRank":         "[2 1 0] 3",
			"MirrorRank wide":    "[4 2 1 3 0] 3",
			"LeastSquares":       "[bd7768e1 bf00dbec 3f1579fc]",
			"WeighedSquares":     "fail",
			"AddRow":             "3 x 3 [40000000 bf800000 3f800000 00000000 3f800000 3f800000 00000000 00000000 403504f3]",
			"AddRow mirrors":     "3 x 3 [402953fd bf91236b c02953fd 00000000 400af59b 3f6bcf54 00000000 00000000 401ebc01]",
			"UpperSolve":         "fail",
		}},
		{2, 3, 2, map[string]string{
			"FactorRows":         "3 x 3 [c4d8e000 3693b400 3c275c00 bc7ab02d 47336400 39333105 300eb7d9 328f70f0 bfc00800] [1 2 0]",
			"LowerOf":            "3 x 3 [3f800000 00000000 00000000 bc7ab02d 3f800000 00000000 300eb7d9 328f70f0 3f800000]",
			"UpperOf":            "3 x 3 [c4d8e000 3693b400 3c275c00 00000000 47336400 39333105 00000000 00000000 bfc00800]",
			"FactorGrowth":       "3f800000",
			"FactorSolve":        "[b24fc6e9 37897171 b48dc029]",
			"FactorSolveFlipped": "[bf006551 2f2fea84 3217bbc5]",
			"FactorDet":          "4ce3ff84",
			"FactorInverse":      "3 x 3 [b683adfc ba171776 2a07fbd8 312a7311 34b2df6a 37b6a9b0 bf2aa38f 300df1a7 323f3948]",
			"ConditionOf":        "46ef2666",
			"LongResidual":       "[c02eca33 3b9eb1f6 bf6f8814 48bb8cca c49f2430]",
			"SolveRefined":       "[b24fc6e9 37897172 b48dc029] [333cb159 332a16a7 332a16a7]",
			"FactorBoth":         "3 x 3 [47336400 41d46000 3774e000 2ed2c7be c4d8e000 3c275c00 328f70f0 3054f359 bfc00800] [2 1 0] [1 0 2] 3",
			"RootOfSquare":       "3 x 3 [44f2419f 00000000 00000000 c224f86d 45b288dc 00000000 41df33b1 46a880cf 48f55685]",
			"RootSolve":          "[aa33f527 ad3a9cf1 2c51b589]",
			"RootShifted":        "fail",
			"MiddleFactor":       "3 x 3 [3f800000 00000000 00000000 4ee59971 3f800000 00000000 cbe0d5da bc7ab01e 3f800000] [b571d000 5442825e 44b00000]",
			"MirrorFactor":       "5 x 3 [30054e1a 34578f01 36f21a5e bf7ffe49 bbec8b50 39bf91d4 bbecd70d 3f7fc1ff bd2fa876 b868a569 bd2faa42 bf7fc354 b4716175 378a2d97 3b5ca529] 3 x 3 [44f2419f c224f86e 41df33ba 00000000 45b288dc 46a880ce 00000000 00000000 48f55685]",
			"MirrorRank":         "[2 1 0] 3",
			"MirrorRank wide":    "[3 2 1 0 4] 3",
			"LeastSquares":       "[339ae095 b91658a1 bc396223]",
			"WeighedSquares":     "[3c563b2c b8d9b41d bc3962c5]",
			"AddRow":             "3 x 3 [3584c44c ba34ccd7 3fd6aace 00000000 39b02437 3d863859 00000000 00000000 3c194dd1]",
			"AddRow mirrors":     "3 x 3 [44f2419f c224f86e 41df33ba 00000000 45b288dc 46a880ce 00000000 00000000 48f55685]",
			"UpperSolve":         "[d22ece82 cce42cdc 4749604f]",
		}},
	}
	for _, r := range rows {
		got := factorTexts(t, r.kind, r.n, r.seed)
		wantTexts(t, fmt.Sprint("kind ", r.kind), got, r.want)
		wantBool(t, "all functions are told", len(got) == len(r.want), true)
	}
}

func TestHashesOfFactors(t *testing.T) {
	hashes := map[string]uint64{
		"FactorRows":         0x2f242038a908bb10,
		"LowerOf":            0x34a6ad38f885259c,
		"UpperOf":            0x29f9eec6b6ff58d2,
		"FactorGrowth":       0x1df2b9303b3bdaa1,
		"FactorSolve":        0x5bf79b6b62dc4378,
		"FactorSolveFlipped": 0xf868bb770b78e676,
		"FactorDet":          0x66d6c90057e43677,
		"FactorInverse":      0xb6078e05670336cc,
		"ConditionOf":        0x37ec22d51a503713,
		"LongResidual":       0xc323a3b2c22b48d5,
		"SolveRefined":       0xea919dc9f2ea61fc,
		"FactorBoth":         0x9ecb3d60c174e170,
		"RootOfSquare":       0x9663b6da4acbc9fa,
		"RootSolve":          0x7f8f0f18d3fe46eb,
		"RootShifted":        0xd11eb1117d4b0a07,
		"MiddleFactor":       0x525991dfe31215b3,
		"MirrorFactor":       0x7dcea11eea7b0f17,
		"MirrorRank":         0xee6aff07d84c4fe6,
		"MirrorRank wide":    0x4b520daeebed8c5c,
		"LeastSquares":       0x801730e026b56575,
		"WeighedSquares":     0x796b08443178e99a,
		"AddRow":             0x5ffba685c7c63f50,
		"AddRow mirrors":     0xf10b92498bc07dd2,
		"UpperSolve":         0x134627e5aa55a30b,
	}
	var texts []map[string]string
	for kind := range 3 {
		for n := int64(1); n <= 12; n++ {
			for i := range int64(10) {
				texts = append(texts, factorTexts(t, kind, n, int64(1000*kind)+100*n+i))
			}
		}
	}
	wantHashes(t, texts, hashes)
}
