package tests

import (
	"fmt"
	"testing"

	"loop.example/g01327/impl"
)

// dice are drawn numbers, the same ones for the same seed.
type dice struct{ seed int64 }

// next returns a number from 0 to 32767.
func (d *dice) next() int64 {
	d.seed = (1103515245*d.seed + 12345) % 2147483648
	return d.seed / 65536
}

// number returns a number from -1 to 1; with the kind 1, it is an integer, often 0, and with 2, some
// numbers are far greater than others.
func (d *dice) number(kind int) float32 {
	x := float32(d.next()-16384) / 16384
	switch kind {
	case 1:
		return float32(int(x * 3))
	case 2:
		return x * float32(int64(1)<<(d.next()%41)) / (1 << 20)
	}
	return x
}

func (d *dice) list(kind int, count int64) []float32 {
	list := make([]float32, count)
	for i := range list {
		list[i] = d.number(kind)
	}
	return list
}

// sparse returns a square that tells about one number in each part ones.
func (d *dice) sparse(kind int, side, part int64) impl.Sparse {
	numbers := repeated(untold, int(side*side))
	for i := range numbers {
		if d.next()%part == 0 {
			numbers[i] = d.number(kind)
		}
	}
	return few(side, numbers...)
}

// order returns the rows of a square, exchanged.
func (d *dice) order(side int64) []int64 {
	list := sequence(0, side)
	for i := range list {
		k := d.next() % side
		list[i], list[k] = list[k], list[i]
	}
	return list
}

// firm returns the symmetric square that tells what a tells below its middle on both sides, with
// a middle that is so great that it has a root.
func firm(a impl.Sparse) impl.Sparse {
	numbers := dense(a)
	for i := range a.Side {
		for k := range i {
			numbers[k*a.Side+i] = numbers[i*a.Side+k]
		}
	}
	for i := range a.Side {
		sum := float32(1)
		for k := range a.Side {
			if x := numbers[i*a.Side+k]; k != i && x == x {
				sum += max(x, -x)
			}
		}
		numbers[i*a.Side+i] = sum
	}
	return few(a.Side, numbers...)
}

// dense returns all numbers of a square, with untold ones.
func dense(a impl.Sparse) []float32 {
	numbers := repeated(untold, int(a.Side*a.Side))
	for i := range a.Side {
		for n := a.Starts[i]; n < a.Starts[i+1]; n++ {
			numbers[i*a.Side+a.Columns[n]] = a.Values[n]
		}
	}
	return numbers
}

// sparseInput is what the functions of chapter 5 are told of in the tables.
type sparseInput struct {
	a, b, firm impl.Sparse
	entries    []impl.Entry
	v          []float32
	list       []int64
	x, y, near float32
	most       int64
}

func sparseInputs(kind int, side, seed int64) sparseInput {
	d := &dice{seed}
	in := sparseInput{a: d.sparse(kind, side, 2+seed%5+side/8), b: d.sparse(kind, side, 3+side/6)}
	in.firm = firm(in.a)
	for range 3 * side {
		in.entries = append(in.entries, entry(d.next()%side, d.next()%side, d.number(kind)))
	}
	in.v, in.list = d.list(kind, side), d.order(side)
	in.x, in.y, in.most = d.number(kind), d.number(kind), 1+d.next()%40
	in.near = 0.001
	if kind == 2 {
		in.near = 100
	}
	return in
}

// sparseTexts tells the results of the functions of chapter 5.
func sparseTexts(in sparseInput) map[string]string {
	texts, tell := telling()
	tellRows(in, tell)
	for name, f := range graphOrders() {
		list, ok := f(in.a)
		tell(name, ok, list)
	}
	counts, all, ok := impl.SparseFill(in.a)
	tell("SparseFill", ok, counts, all)
	for name, f := range sparseRoots() {
		root, ok := f(in.firm)
		tell(name, ok, toldSparse(root))
		list, ok := impl.SparseRootSolve(root, in.v)
		tell(name+"Solve", ok, fmtBits(list))
		list, rounds, ok := impl.SparseWith(in.firm, root, in.v, in.near, in.most)
		tell("SparseWith "+name, ok, fmtBits(list), rounds)
	}
	list, rounds, ok := impl.SparseRounds(in.firm, in.v, 1+in.x/2, in.near, in.most)
	tell("SparseRounds", ok, fmtBits(list), rounds)
	list, rounds, ok = impl.SparseGradient(in.firm, in.v, in.near, in.most)
	tell("SparseGradient", ok, fmtBits(list), rounds)
	return texts
}

func tellRows(in sparseInput, tell teller) {
	a, ok := impl.SparseFrom(in.a.Side, in.entries)
	tell("SparseFrom", ok, toldSparse(a))
	a, ok = impl.SparseFlip(in.a)
	tell("SparseFlip", ok, toldSparse(a))
	for name, times := range sparseProducts() {
		x, ok := times(in.a, in.v)
		tell(name, ok, fmtBits(x))
	}
	a, ok = impl.SparseWeigh(in.a, in.b, in.x, in.y)
	tell("SparseWeigh", ok, toldSparse(a))
	a, ok = impl.SparseMul(in.a, in.b)
	tell("SparseMul", ok, toldSparse(a))
	band, ok := impl.SparseBand(in.a)
	tell("SparseBand", ok, band)
	a, ok = impl.SparseOrder(in.a, in.list)
	tell("SparseOrder", ok, toldSparse(a))
}

func TestTableOfSparse(t *testing.T) {
	rows := []struct {
		kind       int
		side, seed int64
		want       map[string]string
	}{
		{0, 4, 3, map[string]string{
			"SparseFrom":            "4 rows [0 3 4 7 10] [0 1 2 1 0 1 2 0 1 3] [3f6cd800 bed68000 3ca00000 be43c000 3e67c000 bec11800 be845800 3efd8000 3edf7000 3f289800]",
			"SparseFlip":            "4 rows [0 1 2 3 3] [3 3 0] [3ea72800 beb6e000 befc4000]",
			"SparseTimes":           "[3e849f46 00000000 00000000 3e26e064]",
			"SparseWeigh":           "4 rows [0 1 4 6 9] [2 0 1 2 0 2 0 1 3] [3ea2b1bf bf2355d6 3ee66570 bf44ab67 3cdc8f70 3e5565e2 bf289439 3e883ad6 3f46badd]",
			"SparseMul":             "4 rows [0 2 2 2 5] [0 2 0 1 2] [bc8a7120 be05f23c 3e94a725 be51af87 3ea880ac]",
			"SparseBand":            "3",
			"SparseOrder":           "4 rows [0 0 0 2 3] [1 3 0] [beb6e000 3ea72800 befc4000]",
			"SparseDegrees":         "[2 1 1 2]",
			"SparseBreadth":         "[2 0 3 1]",
			"SparseLeast":           "[1 2 0 3]",
			"SparseTree":            "[2 3 3 -1]",
			"SparseFill":            "[3 2 2 1] 8",
			"SparseRoot":            "4 rows [0 1 2 3 6] [0 1 2 0 1 3] [3f936bd1 3f951e0e 3f800000 3e91229d be9cfa1c 3f9d40a9]",
			"SparseRootSolve":       "[3f11c98e 3e41c679 bf069800 3d0d3ef6]",
			"SparseWith SparseRoot": "[3f11c98d 3e41c678 bf0697ff 3d0d3ef5] 1",
			"SparseDrop":            "4 rows [0 1 2 3 6] [0 1 2 0 1 3] [3f936bd1 3f951e0e 3f800000 3e91229d be9cfa1c 3f9d40a9]",
			"SparseDropSolve":       "[3f11c98e 3e41c679 bf069800 3d0d3ef6]",
			"SparseWith SparseDrop": "[3f11c98d 3e41c678 bf0697ff 3d0d3ef5] 1",
			"SparseRounds":          "[3f11af22 3e41e9f6 bf068b3d 3d0e3444] 8",
			"SparseGradient":        "[3f11c98c 3e41c678 bf069800 3d0d3efc] 3",
		}},
		{1, 5, 5, map[string]string{
			"SparseFrom":            "5 rows [0 1 3 5 9 11] [1 0 2 0 1 0 2 3 4 1 3] [c0000000 c0000000 40000000 40000000 3f800000 00000000 c0000000 c0800000 00000000 3f800000 c0000000]",
			"SparseFlip":            "5 rows [0 0 3 7 11 12] [1 3 4 0 2 3 4 1 2 3 4 0] [00000000 3f800000 bf800000 40000000 c0000000 bf800000 40000000 3f800000 3f800000 bf800000 3f800000 00000000]",
			"SparseTimes":           "[c0000000 40000000 40800000 00000000 bf800000]",
			"SparseWeigh":           "5 rows [0 2 6 10 13 17] [2 4 0 1 3 4 0 2 3 4 1 2 3 1 2 3 4] [40a00000 3f800000 c0000000 00000000 40000000 3f800000 3f800000 c0800000 40000000 00000000 40000000 c0000000 c0000000 00000000 40400000 40000000 40000000]",
			"SparseMul":             "5 rows [0 4 6 8 10 12] [0 1 2 4 0 4 0 4 0 4 0 4] [c0000000 00000000 00000000 00000000 00000000 00000000 40000000 00000000 40400000 bf800000 c0800000 3f800000]",
			"SparseBand":            "4",
			"SparseOrder":           "5 rows [0 3 5 8 10 12] [1 2 4 1 2 1 2 4 0 1 2 4] [40000000 3f800000 bf800000 c0000000 3f800000 bf800000 bf800000 3f800000 00000000 40000000 3f800000 00000000]",
			"SparseDegrees":         "[2 2 3 3 4]",
			"SparseBreadth":         "[1 3 4 2 0]",
			"SparseLeast":           "[0 1 2 3 4]",
			"SparseTree":            "[2 3 3 4 -1]",
			"SparseFill":            "[3 3 3 2 1] 12",
			"SparseRoot":            "5 rows [0 1 2 3 6 10] [0 1 2 1 2 3 1 2 3 4] [3f800000 3fddb3d7 40000000 3f13cd3a bf000000 3fec991e bf13cd3a 3f800000 3f7de900 3fd1a8cf]",
			"SparseRootSolve":       "[40000000 3c94f204 3d94f20c 3f19999a beb0df6c]",
			"SparseWith SparseRoot": "[40000000 3c94f204 3d94f20c 3f19999a beb0df6c] 1",
			"SparseDrop":            "5 rows [0 1 2 3 6 10] [0 1 2 1 2 3 1 2 3 4] [3f800000 3fddb3d7 40000000 3f13cd3a bf000000 3fec991e bf13cd3a 3f800000 3f7de900 3fd1a8cf]",
			"SparseDropSolve":       "[40000000 3c94f204 3d94f20c 3f19999a beb0df6c]",
			"SparseWith SparseDrop": "[40000000 3c94f204 3d94f20c 3f19999a beb0df6c] 1",
			"SparseRounds":          "fail",
			"SparseGradient":        "[3fffffff 3c94f1fe 3d94f20a 3f19999a beb0df6b] 4",
		}},
		{2, 4, 8, map[string]string{
			"SparseFrom":            "4 rows [0 1 4 6 8] [3 0 1 2 2 3 0 3] [c163e400 46368000 3ab586c0 c8315800 4088b400 3bce5dc8 36a96800 be718250]",
			"SparseFlip":            "4 rows [0 1 1 1 2] [2 3] [bf190c00 44c64c00]",
			"SparseTimes":           "[00000000 00000000 45a6891f c3636487]",
			"SparseWeigh":           "4 rows [0 0 1 3 4] [3 0 3 3] [428500ce b7fb39d0 32355500 38ebf200]",
			"SparseMul":             "4 rows [0 0 0 0 1] [3] [c8393cd7]",
			"SparseBand":            "2",
			"SparseOrder":           "4 rows [0 0 1 1 2] [1 0] [44c64c00 bf190c00]",
			"SparseDegrees":         "[1 0 1 0]",
			"SparseBreadth":         "[2 0 3 1]",
			"SparseLeast":           "[1 3 0 2]",
			"SparseTree":            "[2 -1 -1 -1]",
			"SparseFill":            "[2 1 1 1] 5",
			"SparseRoot":            "4 rows [0 1 2 4 5] [0 1 0 2 3] [3fa1cc9c 3f800000 bef226e4 3f960c13 3f800000]",
			"SparseRootSolve":       "[c549a580 bb88a800 45c47abf be12c800]",
			"SparseWith SparseRoot": "[c549a580 bb88a800 45c47abf be12c800] 1",
			"SparseDrop":            "4 rows [0 1 2 4 5] [0 1 0 2 3] [3fa1cc9c 3f800000 bef226e4 3f960c13 3f800000]",
			"SparseDropSolve":       "[c549a580 bb88a800 45c47abf be12c800]",
			"SparseWith SparseDrop": "[c549a580 bb88a800 45c47abf be12c800] 1",
			"SparseRounds":          "fail",
			"SparseGradient":        "fail",
		}},
	}
	for _, r := range rows {
		got := sparseTexts(sparseInputs(r.kind, r.side, r.seed))
		wantTexts(t, fmt.Sprint("kind ", r.kind), got, r.want)
		wantBool(t, "all functions are told", len(got) == len(r.want)+impl.MaxCrew, true)
		for workers := 1; workers <= impl.MaxCrew; workers++ {
			wantBool(t, "workers tell the same", got[fmt.Sprint("SparseShared by ", workers)] == r.want["SparseTimes"], true)
		}
	}
}

func TestHashesOfSparse(t *testing.T) {
	hashes := map[string]uint64{
		"SparseFrom":            0x8b707167a33ff3ea,
		"SparseFlip":            0xe4a740740767189b,
		"SparseTimes":           0x56050d1a0353b0ff,
		"SparseWeigh":           0x03c698b2055b429c,
		"SparseMul":             0xae40bdf58ff5fa53,
		"SparseBand":            0x54467df48a95aa33,
		"SparseOrder":           0x27c29350e4a57327,
		"SparseDegrees":         0x0bd8e1855e15f549,
		"SparseBreadth":         0x782512a173d10df9,
		"SparseLeast":           0x82a81d2ddeef21b1,
		"SparseTree":            0xab747b54d9a362b5,
		"SparseFill":            0x0ef5461a97c6b9af,
		"SparseRoot":            0xd126409e0c42af12,
		"SparseRootSolve":       0xb00845a8a84643b7,
		"SparseWith SparseRoot": 0x74bebd9cbb5710bb,
		"SparseDrop":            0xcb4ef574ca9b877e,
		"SparseDropSolve":       0xdd3d8b84cdb99c95,
		"SparseWith SparseDrop": 0x4eb92cbc445b7236,
		"SparseRounds":          0x614eafeab2699beb,
		"SparseGradient":        0xf168e170cbc44890,
	}
	var texts []map[string]string
	for kind := range 3 {
		for side := int64(1); side <= 32; side++ {
			for i := range int64(5) {
				texts = append(texts, sparseTexts(sparseInputs(kind, side, int64(1000*kind)+10*side+i)))
			}
		}
	}
	wantHashes(t, texts, hashes)
}
