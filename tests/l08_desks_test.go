package tests

import (
	"fmt"
	"math"
	"testing"

	"loop.example/g01327/impl"
)

// greatDesk is a desk all parts of which are as great as they can be.
func greatDesk() impl.Desk {
	return impl.Desk{Matrix: filled(12, 12, greatest), Vector: repeated(-greatest, 256), Chain: chain(repeated(greatest, 12), repeated(-greatest, 11)...), Whole: allOf(6, 6, -1000000)}
}

// smallDesk is a desk all parts of which have one number.
func smallDesk() impl.Desk {
	return impl.Desk{Matrix: matrix(1, 1, minusZero), Vector: []float32{number(1)}, Chain: chain([]float32{0}), Whole: integers(1, 1, 0)}
}

func TestNewDesk(t *testing.T) {
	d := impl.NewDesk()
	wantDesk(t, "NewDesk", d, impl.ValidDesk(d), newDesk())
	wantBool(t, "the desk has +0", !math.Signbit(float64(d.Vector[1])), true)
}

func TestValidDesk(t *testing.T) {
	for _, d := range []impl.Desk{newDesk(), greatDesk(), smallDesk(), deskWithVector(repeated[float32](1, 256)...), deskWithChain(impl.Chain{Mids: []float32{1}, Sides: nil}), deskWithWhole(integers(1, 2, 1000000, -1000000))} {
		wantBool(t, "ValidDesk "+toldDesk(d), impl.ValidDesk(d), true)
	}
	for _, d := range notDesks() {
		wantBool(t, "ValidDesk "+toldDesk(d), impl.ValidDesk(d), false)
	}
}

// differentDesks are desks of which no two are the same, valid ones and others.
func differentDesks() []impl.Desk {
	nothing := untold
	return []impl.Desk{
		{}, newDesk(), greatDesk(), smallDesk(),
		deskWithMatrix(matrix(2, 2, 2, 1, 1, 3)), deskWithMatrix(matrix(4, 1, 2, 1, 1, 2)), deskWithMatrix(matrix(1, 4, 2, 1, 1, 2)), deskWithMatrix(matrix(2, 2, 2, 1, 1)), deskWithMatrix(matrix(2, 2, 2, 1, 1, 2, 0)), deskWithMatrix(impl.Matrix{}), deskWithMatrix(matrix(2, 2)),
		deskWithMatrix(matrix(1, 1, 0)), deskWithMatrix(matrix(1, 1, minusZero)), deskWithMatrix(matrix(1, 1, nothing)), deskWithMatrix(matrix(1, 1, infinite)), deskWithMatrix(matrix(1, 1, -infinite)),
		deskWithVector(), deskWithVector(1), deskWithVector(1, minusZero), deskWithVector(minusZero, 1), deskWithVector(0, 1), deskWithVector(1, 0, 0), deskWithVector(1, nothing), deskWithVector(nothing, 1), deskWithVector(1, infinite), deskWithVector(1, number(1)), deskWithVector(repeated[float32](0, 257)...), deskWithVector(-1, 0),
		deskWithChain(chain(nil)), deskWithChain(chain([]float32{2}, 1)), deskWithChain(chain([]float32{2, 2, 1})), deskWithChain(chain([]float32{2, 2}, -1)), deskWithChain(chain([]float32{2, 1}, 1)), deskWithChain(chain([]float32{2, 2}, 1, 1)), deskWithChain(chain(nil, 2, 2, 1)), deskWithChain(chain([]float32{2, nothing}, 1)), deskWithChain(chain([]float32{2, 2}, nothing)),
		deskWithChain(chain([]float32{2, 2}, 0)), deskWithChain(chain([]float32{2, 2}, minusZero)), deskWithChain(chain([]float32{0, 2}, 1)), deskWithChain(chain([]float32{minusZero, 2}, 1)),
		deskWithWhole(impl.Whole{}), deskWithWhole(integers(2, 2, 2, 4, 6, 9)), deskWithWhole(integers(2, 2, -2, 4, 6, 8)), deskWithWhole(integers(4, 1, 2, 4, 6, 8)), deskWithWhole(integers(1, 4, 2, 4, 6, 8)), deskWithWhole(integers(2, 2, 2, 4, 6)), deskWithWhole(integers(2, 2, 2, 4, 6, 8, 0)), deskWithWhole(integers(3, 2, 2, 4, 6, 8)), deskWithWhole(integers(2, 3, 2, 4, 6, 8)),
	}
}

func TestSameDesk(t *testing.T) {
	list := differentDesks()
	again := differentDesks()
	for i, a := range list {
		for k, b := range again {
			wantBool(t, fmt.Sprint("SameDesk ", i, " ", k), impl.SameDesk(a, b), i == k)
		}
	}
}

func TestSameDeskNotANumbers(t *testing.T) {
	for _, bits := range []int64{0x7fc00000, 0xffc00000, 0x7f800001, 0xff800001, 0x7fffffff, 0xffffffff} {
		x := number(bits)
		for _, pair := range [][2]impl.Desk{
			{deskWithMatrix(matrix(1, 2, x, 1)), deskWithMatrix(matrix(1, 2, untold, 1))},
			{deskWithVector(1, x, 2), deskWithVector(1, untold, 2)},
			{deskWithChain(chain([]float32{x, 1}, 2)), deskWithChain(chain([]float32{untold, 1}, 2))},
			{deskWithChain(chain([]float32{1, 1}, x)), deskWithChain(chain([]float32{1, 1}, untold))},
		} {
			wantBool(t, fmt.Sprintf("all not-a-numbers are the same, %08x", bits), impl.SameDesk(pair[0], pair[1]) && impl.SameDesk(pair[1], pair[0]), true)
			wantBool(t, "a desk with one is not valid", impl.ValidDesk(pair[0]), false)
		}
	}
	// nil and empty lists are the same
	full := impl.Desk{Matrix: matrix(0, 0, []float32{}...), Vector: []float32{}, Chain: impl.Chain{Mids: []float32{}, Sides: []float32{}}, Whole: integers(0, 0, []int64{}...)}
	wantBool(t, "empty lists", impl.SameDesk(full, impl.Desk{}) && impl.SameDesk(impl.Desk{}, full), true)
}
