package tests

import (
	"fmt"
	"testing"

	"loop.example/g01327/impl"
)

// valueInput is what the functions of chapter 4 are told of in the tables.
type valueInput struct {
	square, symmetric, tall impl.Matrix
	v, w                    []float32
	c                       impl.Chain
	rounds, keep, terms     int64
}

// valueInputs returns drawn numbers for squares of n rows, of the kinds of chosen.
func valueInputs(t *testing.T, kind int, n, seed int64) valueInput {
	t.Helper()
	in := valueInput{rounds: 1 + seed%6, keep: seed % (n + 1), terms: 1 + seed%12}
	in.square, seed = chosen(t, kind, n, n, seed)
	in.tall, seed = chosen(t, kind, min(12, n+2), n, seed)
	row, seed := chosen(t, kind, 1, n, seed)
	other, seed := chosen(t, kind, 1, n, seed)
	mids, _ := chosen(t, kind, 1, n, seed)
	in.v, in.w, in.c = row.Numbers, other.Numbers, chain(mids.Numbers, other.Numbers[1:]...)
	in.symmetric = matrix(n, n)
	for i := range n {
		for k := range n {
			in.symmetric.Numbers = append(in.symmetric.Numbers, in.square.Numbers[max(i, k)*n+min(i, k)])
		}
	}
	return in
}

// valueTexts tells the results of the functions of chapter 4.
func valueTexts(in valueInput) map[string]string {
	texts, tell := telling()
	tellChain(in.c, in.v, tell)
	tellTurns(in.square, in.symmetric, in.rounds, tell)
	tellVectors(in.square, in.v, in.w, in.rounds, tell)
	tellSides(in.tall, in.keep, in.rounds, tell)
	x, ok := impl.PolarPart(in.square, in.rounds)
	tell("PolarPart", ok, toldMatrix(x))
	x, ok = impl.ExpMatrix(in.square, in.terms)
	tell("ExpMatrix", ok, toldMatrix(x))
	signs, ok := impl.SignsOf(in.square)
	tell("SignsOf", ok, fmtBits(signs))
	return texts
}

func tellChain(c impl.Chain, v []float32, tell teller) {
	low, high, ok := impl.SpanOfChain(c)
	tell("SpanOfChain", ok, toldText(low), toldText(high))
	values, ok := impl.ValuesOfChain(c)
	tell("ValuesOfChain", ok, fmtBits(values))
	below, ok := impl.CountBelow(c, 0)
	tell("CountBelow", ok, below)
	x, ok := impl.SolveChain(c, v)
	tell("SolveChain", ok, fmtBits(x))
}

func tellTurns(a, symmetric impl.Matrix, rounds int64, tell teller) {
	even, ok := impl.SymmetricPart(a)
	tell("SymmetricPart", ok, toldMatrix(even))
	norm, ok := impl.OffNorm(a)
	tell("OffNorm", ok, toldText(norm))
	c, s, ok := impl.TurnOf(symmetric, 0, symmetric.Rows-1)
	tell("TurnOf", ok, toldText(c), toldText(s))
	pair, ok := impl.TurnPair(symmetric, 0, symmetric.Rows-1)
	tell("TurnPair", ok, toldMatrix(pair))
	values, vectors, ok := impl.TurnValues(symmetric, rounds)
	tell("TurnValues", ok, fmtBits(values), toldMatrix(vectors))
}

func tellVectors(a impl.Matrix, v, w []float32, rounds int64, tell teller) {
	unit, ok := impl.UnitVector(v)
	tell("UnitVector", ok, fmtBits(unit))
	value, ok := impl.RayleighOf(a, v)
	tell("RayleighOf", ok, toldText(value))
	led, value, ok := impl.PowerRounds(a, v, rounds)
	tell("PowerRounds", ok, fmtBits(led), toldText(value))
	cosine, ok := impl.CosineOf(v, w)
	tell("CosineOf", ok, toldText(cosine))
}

func tellSides(a impl.Matrix, keep, rounds int64, tell teller) {
	u, v, ok := impl.SideTurns(a, rounds)
	tell("SideTurns", ok, toldMatrix(u), toldMatrix(v))
	values, ok := impl.SingularOf(a, rounds)
	tell("SingularOf", ok, fmtBits(values))
	low, ok := impl.LowMatrix(a, keep, rounds)
	tell("LowMatrix", ok, toldMatrix(low))
}

func TestTableOfValues(t *testing.T) {
	rows := []struct {
		kind    int
		n, seed int64
		want    map[string]string
	}{
		{0, 3, 1, map[string]string{
			"SpanOfChain":   "bd364000 3fc31600",
			"ValuesOfChain": "[3e08e61d 3f58b70c 3fad85b5]",
			"CountBelow":    "0",
			"SolveChain":    "[bfa03b36 40680f75 c0314107]",
			"SymmetricPart": "3 x 3 [3ce30000 be945c00 3c318000 be945c00 3f652c00 bf1a1400 3c318000 bf1a1400 bc2c0000]",
			"OffNorm":       "3f9af9e7",
			"TurnOf":        "3f393da8 bf30b26d",
			"TurnPair":      "3 x 3 [3ed3b31a bea7cba8 00000000 bea7cba8 3f652c00 bee31d83 00000000 bee31d83 becae31a]",
			"TurnValues":    "[bf0b6313 3e95cd2b 3f950840] 3 x 3 [bf12a019 3f5032d6 bdd23196 3ea15499 3eab0441 3f636a2a 3f41ba15 3ef3f2b8 bee5282a]",
			"UnitVector":    "[beb03aa9 3f7016c5 3d35d072]",
			"RayleighOf":    "3f6d620f",
			"PowerRounds":   "[be589c95 3f543444 bf04900a] 3f9dfa7d",
			"CosineOf":      "3eeaa3ac",
			"SideTurns":     "5 x 3 [bf8c9cd6 bdc18a9a 3e98c317 bcb2d1e8 3dc81cc0 3f8bce23 3f00c4ea 3eac61c9 3da7e5ca 3f7ada5d 3d1960bb 3e70407c beedaaa3 3f29b5e7 be318095] 3 x 3 [3f26b557 bf2e751b beaafc08 3f1d5318 3f3b5223 be96f131 3ee3f9f2 bc5917d7 3f653263]",
			"SingularOf":    "[3fcfd0be 3f960719 3f41bc49]",
			"LowMatrix":     "5 x 3 [bf37229b bf2cd3a7 befa70b6 bc68e58f bc5bc98c bc1f3eb8 3ea7b5cd 3e9e451f 3e6558a9 3f235b4a 3f1a2957 3edf648c be9ac500 be920ecb be53a65a]",
			"PolarPart":     "3 x 3 [bcef24b6 bf148b2e bf064bda 3e0cffa6 3f29d1b6 bf26cbd1 3f044b9b bed7960d bd7ea474]",
			"ExpMatrix":     "3 x 3 [3f741c0b bf709d2b bde5263e bd870d5a 40302bfe bf8c6d13 3ecc8835 bf8a050e 3f9833fc]",
			"SignsOf":       "[bf699400 be140b42 bea10cb0]",
		}},
		{1, 3, 4, map[string]string{
			"SpanOfChain":   "c0400000 40000000",
			"ValuesOfChain": "[c01360ae ac400000 3fa6c15a]",
			"CountBelow":    "2",
			"SolveChain":    "fail",
			"SymmetricPart": "3 x 3 [c0000000 bf000000 bf000000 bf000000 00000000 c0000000 bf000000 c0000000 40000000]",
			"OffNorm":       "406f7751",
			"TurnOf":        "3f800000 00000000",
			"TurnPair":      "3 x 3 [c0000000 c0000000 00000000 c0000000 00000000 c0000000 00000000 c0000000 40000000]",
			"TurnValues":    "[c05db3d4 b20d1688 405db3db] 3 x 3 [3f49e69c bf13cd3c 3e586593 3f13cd3a 3f13cd3a bf13cd3d 3e58658a 3f13cd3b 3f49e69c]",
			"UnitVector":    "[00000000 3f3504f3 3f3504f3]",
			"RayleighOf":    "bf800000",
			"PowerRounds":   "[be40a8dd be907ea6 3f70d315] 4038a31f",
			"CosineOf":      "3f3504f3",
			"SideTurns":     "5 x 3 [3e01a1d7 bea8e1ca c01b20c8 bf57568c bf68a844 bfc90662 3fb9e3c4 be14dddb bffbcc8e 3d8059a6 3f595213 bf065a05 bf374022 3f49fbe4 c027b033] 3 x 3 [3d8059a6 3f595213 bf065a05 bf67b3ce 3e8a356c 3ea838b3 3ed7568c 3ee8a844 3f490662]",
			"SingularOf":    "[408cc553 3fea3e2c 3fc214de]",
			"LowMatrix":     "5 x 3 [00000000 00000000 00000000 00000000 00000000 00000000 00000000 00000000 00000000 00000000 00000000 00000000 00000000 00000000 00000000]",
			"PolarPart":     "3 x 3 [bf4d2bdf 3f02c5ae 3e254824 befa1e9a bedb91ec bf3b5e0e bea33274 bf36eb6a 3f1f2e50]",
			"ExpMatrix":     "3 x 3 [bf80ecfa 4036992a c094a3a5 c007d618 40965ded c0eff03c 40655c40 c114a3a6 417c7e25]",
			"SignsOf":       "[80000000 c0c00000 c1000000]",
		}},
		{2, 3, 2, map[string]string{
			"SpanOfChain":   "bf5071b4 40167000",
			"ValuesOfChain": "[beb3d2a7 35386f51 3ff19f30]",
			"CountBelow":    "1",
			"SolveChain":    "[c30a6382 bf649db3 3c7e1963]",
			"SymmetricPart": "3 x 3 [b571d000 c458dffa 41485f80 c458dffa 3693b400 46b36403 41485f80 46b36403 3774e000]",
			"OffNorm":       "473384c5",
			"TurnOf":        "3f3504f4 3f3504f1",
			"TurnPair":      "3 x 3 [c1d45ffa c703a3ff 00000000 c703a3ff 3693b400 46f41cb0 00000000 46f41cb0 41d46002]",
			"TurnValues":    "[c73385c6 4000214f 473383c4] 3 x 3 [3cde0645 bf7fd147 bcd759f4 3f350470 3a17016c 3f350572 bf34e36a bd1aa2bd 3f34e46b]",
			"UnitVector":    "[3511cbd6 37e9e7bf 3f800000]",
			"RayleighOf":    "3fa3e957",
			"PowerRounds":   "[b6a1fe75 37ea2f9c 3f800000] 3fa4174d",
			"CosineOf":      "3f800000",
			"SideTurns":     "5 x 3 [b5d15be5 ba22f517 40684c00 c4f23fc3 40ac054a bbc27921 3fe99e5d 45b26021 4031ffa7 37c4d97d 3cee7750 c8f59002 bb390075 bf3af582 44d37ffe] 3 x 3 [3f7fffc0 bb35c8cf 3465643f 3b35c8cd 3f7fffbe 39ff75d1 b5d2132f b9ff757c 3f7ffffe]",
			"SingularOf":    "[48f5905d 45b26026 44f23fca]",
			"LowMatrix":     "5 x 3 [3627c0d9 3a965426 40684bff bc744d5a 40ac0518 bc0c269d c17d53c4 45b25ff6 36100000 bddc344f c3750401 c8f59000 3b1c72c6 3dc0c410 44d37fff]",
			"PolarPart":     "3 x 3 [aec8abf2 328f7114 b8e70e30 be01f5d5 38586bf1 354893bc 3a170632 3f7ffffe 2fb5bef5]",
			"ExpMatrix":     "fail",
			"SignsOf":       "[b797ce80 c3d5f945 cce3ff84]",
		}},
	}
	for _, r := range rows {
		got := valueTexts(valueInputs(t, r.kind, r.n, r.seed))
		wantTexts(t, fmt.Sprint("kind ", r.kind), got, r.want)
		wantBool(t, "all functions are told", len(got) == len(r.want), true)
	}
}

func TestHashesOfValues(t *testing.T) {
	hashes := map[string]uint64{
		"SpanOfChain":   0xb85c491da9f64c15,
		"ValuesOfChain": 0x960b8c888674e9c7,
		"CountBelow":    0xb60866b0db96c9a5,
		"SolveChain":    0x962027264b7f1c7a,
		"SymmetricPart": 0x0d011714606deb03,
		"OffNorm":       0xafba548b4f6aaeb6,
		"TurnOf":        0x481a8ba4766ba8d5,
		"TurnPair":      0x68a393fd20f57ac0,
		"TurnValues":    0xe91073244666ef2f,
		"UnitVector":    0x6d5aef7927fb6f41,
		"RayleighOf":    0x5a8fb1c034883420,
		"PowerRounds":   0x5ac532955c8c9dc8,
		"CosineOf":      0x2d6be01fa04ef978,
		"SideTurns":     0x13abc8e41aaed693,
		"SingularOf":    0x5a45f7ac2bffbaa4,
		"LowMatrix":     0xea56bebdcc916246,
		"PolarPart":     0xcc0063dbf124be7c,
		"ExpMatrix":     0xde34e5c4e24a5630,
		"SignsOf":       0x8e04c103d7d59be9,
	}
	var texts []map[string]string
	for kind := range 3 {
		for n := int64(1); n <= 12; n++ {
			for i := range int64(10) {
				texts = append(texts, valueTexts(valueInputs(t, kind, n, int64(1000*kind)+100*n+i)))
			}
		}
	}
	wantHashes(t, texts, hashes)
}
