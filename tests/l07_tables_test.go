package tests

import (
	"fmt"
	"testing"

	"loop.example/g01327/impl"
)

// extreme returns a number at an edge of all numbers with the kind 3, sometimes, and otherwise
// what number returns.
func (d *dice) extreme(kind int) float32 {
	if kind < 3 || d.next()%8 > 0 {
		return d.number(kind)
	}
	edges := []float32{0, minusZero, 1, -1, 2, greatest, -greatest, 1e20, -1e19, 1e-20, number(1), number(0x80800000), 3, 0.5, 1e38, -3e38}
	return edges[d.next()%16]
}

func (d *dice) extremes(kind int, count int64) []float32 {
	list := make([]float32, count)
	for i := range list {
		list[i] = d.extreme(kind)
	}
	return list
}

func (d *dice) ring(kind int, count int64) []complex64 {
	list := make([]complex64, count)
	for i := range list {
		re := d.extreme(kind)
		list[i] = complex(re, d.extreme(kind))
	}
	return list
}

// length returns a length from 1 to MaxRing, which is more often small.
func (d *dice) length() int64 {
	if d.next()%4 == 0 {
		return 1 + d.next()%impl.MaxRing
	}
	return 1 + d.next()%8
}

// thirds returns thirds of count rows, whose middle is great enough to solve with, mostly.
func (d *dice) thirds(kind int, count int64) impl.Thirds {
	t := impl.Thirds{Lower: d.extremes(kind, count), Middle: d.extremes(kind, count), Upper: d.extremes(kind, count)}
	if d.next()%4 > 0 {
		for i := range t.Middle {
			t.Middle[i] += 3
		}
	}
	t.Lower[0], t.Upper[count-1] = 0, 0
	if d.next()%2 == 0 {
		t.Lower[0], t.Upper[count-1] = minusZero, minusZero
	}
	return t
}

// factor returns a square without zeros in its middle, and an order.
func (d *dice) factor(kind int, n int64) impl.Factor {
	f := factor(matrix(n, n, d.extremes(kind, n*n)...), d.order(n)...)
	for i := range n {
		if f.Square.Numbers[i*(n+1)] == 0 {
			f.Square.Numbers[i*(n+1)] = 1
		}
	}
	return f
}

func (d *dice) sheet(kind int) impl.Sheet {
	name := ""
	for range 1 + d.next()%8 {
		name += string(rune('a' + d.next()%26))
	}
	rows, columns := 1+d.next()%3, 1+d.next()%3
	return impl.Sheet{Name: name, Matrix: matrix(rows, columns, d.extremes(kind, rows*columns)...)}
}

// fewInput is what the functions of chapter 7 are told of in the tables.
type fewInput struct {
	ring, v       []complex64
	list, other   []float32
	thirds        impl.Thirds
	first, last   float32
	b             []float32
	many          []impl.Thirds
	workers       int64
	x, y          []float32
	at            float32
	factor        impl.Factor
	rows, columns []float32
	solved        []float32
	a             impl.Matrix
	near          float32
	most          int64
	sheets        []impl.Sheet
	at2, bit      int64 // where stored sheets are broken or cut
}

func fewInputs(kind int, seed int64) fewInput {
	d := &dice{seed}
	n := d.length()
	in := fewInput{ring: d.ring(kind, n), v: d.ring(kind, n)}
	n = 1 + d.next()%impl.MaxSide
	in.list, in.other = d.extremes(kind, n), d.extremes(kind, n)
	if d.next()%4 > 0 {
		in.list[0] = absoluteOf(in.list[0]) + float32(n)
	}
	n = d.length()
	in.thirds = d.thirds(kind, n)
	in.first, in.last = d.extreme(kind), d.extreme(kind)
	in.b = d.extremes(kind, n)
	for range d.next() % 9 {
		in.many = append(in.many, d.thirds(kind, n))
	}
	in.workers = 1 + d.next()%impl.MaxCrew
	n = d.length()
	in.x, in.y = d.extremes(kind, n), d.extremes(kind, n)
	if d.next()%2 == 0 {
		for i := range in.x {
			in.x[i] += float32(4 * i)
		}
	}
	in.at = d.extreme(kind)
	n = 1 + d.next()%impl.MaxSide
	in.factor = d.factor(kind, n)
	in.rows, in.columns, in.solved = d.extremes(kind, n), d.extremes(kind, n), d.extremes(kind, n)
	rows, columns := 1+d.next()%impl.MaxSide, 1+d.next()%impl.MaxSide
	in.a = matrix(rows, columns, d.extremes(kind, rows*columns)...)
	if d.next()%2 == 0 {
		in.near = absoluteOf(d.extreme(kind)) / 4
	}
	in.most = 1 + d.next()%impl.MaxSide
	for range d.next() % 10 {
		in.sheets = append(in.sheets, d.sheet(kind))
	}
	in.at2, in.bit = d.next()*32768+d.next(), d.next()%9
	return in
}

// fewTexts tells the results of the functions of chapter 7.
func fewTexts(in fewInput) map[string]string {
	texts, tell := telling()
	tellRings(in, tell)
	tellShifts(in, tell)
	tellThirds(in, tell)
	tellNodes(in, tell)
	tellSheets(in, tell)
	return texts
}

func tellRings(in fewInput, tell teller) {
	list, ok := impl.SpectrumOf(in.ring)
	tell("SpectrumOf", ok, toldRing(list))
	list, ok = impl.FromSpectrum(in.ring)
	tell("FromSpectrum", ok, toldRing(list))
	list, ok = impl.RingTimes(in.ring, in.v)
	tell("RingTimes", ok, toldRing(list))
	list, ok = impl.RingSolve(in.ring, in.v)
	tell("RingSolve", ok, toldRing(list))
}

func tellShifts(in fewInput, tell teller) {
	a, ok := impl.RingMatrix(in.list)
	tell("RingMatrix", ok, toldMatrix(a))
	a, ok = impl.ShiftMatrix(in.list)
	tell("ShiftMatrix", ok, toldMatrix(a))
	x, ok := impl.ShiftTimes(in.list, in.other)
	tell("ShiftTimes", ok, fmtBits(x))
	shares, reflections, left, ok := impl.ReflectionsOf(in.list)
	tell("ReflectionsOf", ok, fmtBits(shares), fmtBits(reflections), toldText(left))
	x, ok = impl.ShiftSolve(in.list, in.other)
	tell("ShiftSolve", ok, fmtBits(x))
}

func toldLists(lists [][]float32) string {
	text := ""
	for _, list := range lists {
		text += fmtBits(list)
	}
	return text
}

func tellThirds(in fewInput, tell teller) {
	x, ok := impl.ThirdsTimes(in.thirds, in.b)
	tell("ThirdsTimes", ok, fmtBits(x))
	x, ok = impl.ThirdsSolve(in.thirds, in.b)
	tell("ThirdsSolve", ok, fmtBits(x))
	x, ok = impl.ThirdsRing(in.thirds, in.first, in.last, in.b)
	tell("ThirdsRing", ok, fmtBits(x))
	many, ok := impl.ThirdsShared(in.many, in.b, in.workers)
	tell("ThirdsShared", ok, len(many), toldLists(many))
}

func tellNodes(in fewInput, tell teller) {
	x, ok := impl.DividedOf(in.x, in.y)
	tell("DividedOf", ok, fmtBits(x))
	s, ok := impl.NewtonAt(in.x, in.y, in.at)
	tell("NewtonAt", ok, toldText(s))
	x, ok = impl.UpdatedSolve(in.factor, in.rows, in.columns, in.solved)
	tell("UpdatedSolve", ok, fmtBits(x))
	a, rows, columns, ok := impl.CrossOf(in.a, in.near, in.most)
	tell("CrossOf", ok, toldMatrix(a), rows, columns)
}

// broken returns bytes that are cut at a place, or in which one is another one.
func broken(bytes string, at, bit int64) string {
	if len(bytes) == 0 {
		return ""
	}
	at %= int64(len(bytes))
	if bit > 7 {
		return bytes[:at]
	}
	return bytes[:at] + string([]byte{bytes[at] ^ byte(1<<bit)}) + bytes[at+1:]
}

func tellSheets(in fewInput, tell teller) {
	bytes, ok := impl.StoreSheets(in.sheets)
	tell("StoreSheets", ok, fmt.Sprintf("%x", bytes))
	list, size, ok := impl.RecoverSheets(bytes + "MAT")
	tell("RecoverSheets", ok, toldSheets(list), size)
	list, size, ok = impl.RecoverSheets(broken(bytes, in.at2, in.bit))
	tell("RecoverSheets broken", ok, toldSheets(list), size)
	sheet := impl.Sheet{}
	if len(in.sheets) > 0 {
		sheet = in.sheets[0]
	}
	bytes, ok = impl.StoreSheet(sheet)
	tell("StoreSheet", ok, fmt.Sprintf("%x", bytes))
	back, ok := impl.LoadSheet(bytes)
	tell("LoadSheet", ok, toldSheets([]impl.Sheet{back}))
	back, ok = impl.LoadSheet(broken(bytes, in.at2, in.bit))
	tell("LoadSheet broken", ok, toldSheets([]impl.Sheet{back}))
}

func TestTableOfFew(t *testing.T) {
	rows := []struct {
		kind int
		seed int64
		want map[string]string
	}{
		{0, 1755, map[string]string{
			"SpectrumOf":           "[[3efe8800 3e958000] [bfa32a29 bf7843bd] [c0247209 bdf46010] [bfdb83bf bf5101e4] [3ee7bfe1 bf902b2d]]",
			"FromSpectrum":         "[[3dcba000 3d6f3333] [3db9664e be66ab7b] [beaf9c99 be2734b7] [bf038e6e bcc3800d] [be828821 be469c97]]",
			"RingTimes":            "[[bfb741a1 bf9093a2] [3eba9c78 bf853600] [bf4a60d5 3f8a48ac] [3ec256e0 bf9fcbee] [3cdb59a8 3fced9aa]]",
			"RingSolve":            "[[bf6a7c53 3f2b1188] [bf3a359c 3ef33a15] [bf590773 3ec6b9bb] [bf5d61dd 3e1b4d68] [bf2b1ce8 3f894387]]",
			"RingMatrix":           "5 x 5 [40ba4480 bcaf8000 3f313800 3e37e000 3ef34800 3ef34800 40ba4480 bcaf8000 3f313800 3e37e000 3e37e000 3ef34800 40ba4480 bcaf8000 3f313800 3f313800 3e37e000 3ef34800 40ba4480 bcaf8000 bcaf8000 3f313800 3e37e000 3ef34800 40ba4480]",
			"ShiftMatrix":          "5 x 5 [40ba4480 3ef34800 3e37e000 3f313800 bcaf8000 3ef34800 40ba4480 3ef34800 3e37e000 3f313800 3e37e000 3ef34800 40ba4480 3ef34800 3e37e000 3f313800 3e37e000 3ef34800 40ba4480 3ef34800 bcaf8000 3f313800 3e37e000 3ef34800 40ba4480]",
			"ShiftTimes":           "[c0b51df2 c03336e7 c0560432 c0bbca18 bf7fd772]",
			"ReflectionsOf":        "[3da2d4cf 3c7e2fdb 3defd229 bcbdd682] [3da72dc9 3cc7740e 3dec2ca4 bcbdd682] 40b65c0e",
			"ShiftSolve":           "[bdf9b18f bd2965eb bd754994 be028243 3c059917]",
			"ThirdsTimes":          "[be42bdc0 3f7ccd0a be8a775c c0154e9c 404ff060 3ef6276c bf9f3dc0 400ddb07 c0128a54]",
			"ThirdsSolve":          "[3db69282 3ea5c431 bda33bfd beccb80f 3e30375b bd252fb4 be8f7dad 3d35dc1c be88b0c9]",
			"ThirdsRing":           "[3c9a2d50 3e96f861 bdb0e17b becda762 3e2fb48b bd25029c be8f7343 3d34983e be89d239]",
			"ThirdsShared":         "2 [3cd3d376 3e36e470 bd6a7fd7 bec810c8 3e847aa6 bdbb5b5a bea88ae7 3e65183d be9022a7][bf12fc76 bdd88a83 bf0be2bf 3e8fabd1 bf9b9723 bdbdde82 3db6ef60 bf6117b1 40073291]",
			"DividedOf":            "[bcaf8000 3e8c68d3 bd07d4a6 3a195d21 398cf19a b81832b4 3618b38b]",
			"NewtonAt":             "4676d8e7",
			"UpdatedSolve":         "[40a3914c 412e59c8 40892367 40eac228 bfbd61d8 c00fd59e c0e694fd 40a98d5e]",
			"CrossOf":              "1 x 11 [3edd3800 3f3c9c00 3f3de000 3e8bd800 be09a000 3eabb000 3d9de000 bda7a000 be97b000 3e6c5000 3e34f000] [0] [2]",
			"StoreSheets":          "4d415431017703010010973e00b0ff3e00103cbf494d4d415431056c6475756102030080993c00cc163f00c0033e006c52bf0040c83e00d8423f14f44d4154310671736e626a6f03020018033f00f06fbf00644d3f00f815bf00d013be00c0663ec4d6",
			"RecoverSheets":        "w 3 x 1 [3e971000 3effb000 bf3c1000];lduua 2 x 3 [3c998000 3f16cc00 3e03c000 bf526c00 3ec84000 3f42d800];qsnbjo 3 x 2 [3f031800 bf6ff000 3f4d6400 bf15f800 be13d000 3e66c000]; 99",
			"RecoverSheets broken": "w 3 x 1 [3e971000 3effb000 bf3c1000]; 22",
			"StoreSheet":           "4d415431017703010010973e00b0ff3e00103cbf494d",
			"LoadSheet":            "w 3 x 1 [3e971000 3effb000 bf3c1000];",
			"LoadSheet broken":     "fail",
		}},
		{1, 1002658, map[string]string{
			"SpectrumOf":           "[[3f800000 40000000] [3f60f129 3f60f129] [40800000 3f800000] [3f8f876c 3fda8278] [bf800000 c0c00000] [40a3e1da 40a3e1da] [00000000 40400000] [c047c3b6 3e95f61e]]",
			"FromSpectrum":         "[[3e000000 3e800000] [bec7c3b6 3d15f61e] [00000000 3ec00000] [3f23e1da 3f23e1da] [be000000 bf400000] [3e0f876c 3e5a8278] [3f000000 3e000000] [3de0f129 3de0f129]]",
			"RingTimes":            "[[c0000000 c1600000] [c0000000 41100000] [40c00000 40a00000] [c0800000 c0000000] [c0400000 c0000000] [40a00000 c0800000] [c0c00000 40c00000] [40800000 40400000]]",
			"RingSolve":            "[[be8af18e bededb22] [3f96e59f bf06cd56] [3ece1007 bd696188] [bdbfed60 3edd17ce] [3edb0a4c 3f5b7fb0] [bd690540 3c94a3fe] [be9c1566 bdb74acc] [bf61e086 3a735020]]",
			"RingMatrix":           "4 x 4 [40a00000 00000000 00000000 bf800000 bf800000 40a00000 00000000 00000000 00000000 bf800000 40a00000 00000000 00000000 00000000 bf800000 40a00000]",
			"ShiftMatrix":          "4 x 4 [40a00000 bf800000 00000000 00000000 bf800000 40a00000 bf800000 00000000 00000000 bf800000 40a00000 bf800000 00000000 00000000 bf800000 40a00000]",
			"ShiftTimes":           "[bf800000 40a00000 c0000000 40a00000]",
			"ReflectionsOf":        "[be55b451 bd321644 bc0e7837] [be4ccccd bd2aaaac bc0e7837] 4099525d",
			"ShiftSolve":           "[3d39d80b 3e684e0f 3db62087 3e5f0341]",
			"ThirdsTimes":          "[00000000 00000000 bf800000 40a00000 00000000 c0a00000 c0c00000 00000000]",
			"ThirdsSolve":          "[3d40c0c1 3d909091 3e4ccccd 3e4ccccd c00ccccd bfb33333 bf75c290 00000000]",
			"ThirdsRing":           "[3d280a80 3d930930 3e4ccccd 3e4ccccd c00ccccd bfb33333 bf75c290 3ca80a80]",
			"ThirdsShared":         "1 [00000000 00000000 00000000 3eaaaaaa beaaaaab be53dcb0 bef72c23 3e772c22]",
			"DividedOf":            "[c0000000 3f000000 bd924924 3c93c36b bb237e95 3913ea37 36e5f664]",
			"NewtonAt":             "c0000000",
			"UpdatedSolve":         "[c45c1098 c4016130 448f1a14 c407d556 c34517b4 c35bded0 c31b097c c145ed0a c294f684 41fa12f8 c0a12f68]",
			"CrossOf":              "7 x 3 [00000000 3f800000 00000000 00000000 bf800000 00000000 bf800000 3f800000 c0000000 00000000 00000000 40000000 00000000 bf7ffffe c0000000 40000000 40000000 bf800000 40000000 bf800000 00000000] [2 5 4] [2 0 1]",
			"StoreSheets":          "4d415431056e6666797302010000000000000000d1904d415431046f6c6a6701010000004047d24d4154310771776d7266677a01030000000000000000000000007aa24d41543108686a74686e70647a01010000803f7f10",
			"RecoverSheets":        "nffys 2 x 1 [00000000 00000000];oljg 1 x 1 [40000000];qwmrfgz 1 x 3 [00000000 00000000 00000000];hjthnpdz 1 x 1 [3f800000]; 88",
			"RecoverSheets broken": "nffys 2 x 1 [00000000 00000000];oljg 1 x 1 [40000000];qwmrfgz 1 x 3 [00000000 00000000 00000000]; 67",
			"StoreSheet":           "4d415431056e6666797302010000000000000000d190",
			"LoadSheet":            "nffys 2 x 1 [00000000 00000000];",
			"LoadSheet broken":     "fail",
		}},
		{2, 2001428, map[string]string{
			"SpectrumOf":           "[[43dfec00 446f939b] [43d4f4c3 c5240ab4] [c4ac8f30 44d07924]]",
			"FromSpectrum":         "[[43154800 439fb7bd] [c3e61440 440afb6e] [430df882 c45ab8f0]]",
			"RingTimes":            "[[4d3156d3 4b0f2540] [4c013417 c914d586] [cd93dd35 cd3f4361]]",
			"RingSolve":            "[[c2990687 429c71a8] [c12decde 42618e97] [40f4e056 4214ec9a]]",
			"RingMatrix":           "4 x 4 [42f9d000 bf254000 bbf84000 3d62a000 3d62a000 42f9d000 bf254000 bbf84000 bbf84000 3d62a000 42f9d000 bf254000 bf254000 bbf84000 3d62a000 42f9d000]",
			"ShiftMatrix":          "4 x 4 [42f9d000 3d62a000 bbf84000 bf254000 3d62a000 42f9d000 3d62a000 bbf84000 bbf84000 3d62a000 42f9d000 3d62a000 bf254000 bbf84000 3d62a000 42f9d000]",
			"ShiftTimes":           "[c4b6815f ca5a097b c4dbaffb 4357ce9c]",
			"ReflectionsOf":        "[39e81662 b8759eab bba9575e] [39e83cf9 b87f38c9 bba9575e] 42f9ce48",
			"ShiftSolve":           "[3ddfa5bf c364f8c9 3db8c25b bc5b1cbe]",
			"ThirdsTimes":          "[ba83efc1 42eeab65 ba3ac8c9 c42b1a16 cad37520 c0c603cc 4da32488]",
			"ThirdsSolve":          "[cc2dbb00 422e8405 47bf4e1a 3c16f95d bfc719d3 c3049a1a 3e2a2737]",
			"ThirdsRing":           "[c980d350 419d5262 450ddba0 4200d2e7 c624917a c95b42ef 45009e91]",
			"ThirdsShared":         "1 [3abb8d40 3500e68b 3a6a2498 3fa19b22 b99d5b26 3238cc6f 3f6d28cc]",
			"DividedOf":            "[3ea02800 ba617136 c30c8794 483c6599 ce8d3e45 ccedca29 c972cc85 c8229fef c1d42323 53b1203f 5c505848]",
			"NewtonAt":             "fail",
			"UpdatedSolve":         "[e3000000 5b000000 00000000 d3310000 00000000 4a5e0000 00000000 43a51428]",
			"CrossOf":              "7 x 5 [398a8800 3d556800 41ad9800 b557f000 40434c00 bb712000 394ed419 c1c15000 38dd5800 b86a7000 47fefc00 c1a15400 42949800 b9336400 3d97e400 42660000 bc4ebc00 3e8d4000 c045a000 3b6d1000 46343800 c83ff800 bc856400 41b02000 b7ab3000 44560000 39f3dc00 b6020000 bbdd0000 47d24000 b59e8000 3e5ab800 4472c800 3d813401 3ea40800] [4 2 5 6 3] [1 0 4 2 3]",
			"StoreSheets":          "fail",
			"RecoverSheets":        "0",
			"RecoverSheets broken": "0",
			"StoreSheet":           "4d4154310461676e74020200c03dc80054db3d00781ac3009852b6cc36",
			"LoadSheet":            "agnt 2 x 2 [c83dc000 3ddb5400 c31a7800 b6529800];",
			"LoadSheet broken":     "fail",
		}},
		{3, 3001427, map[string]string{
			"SpectrumOf":           "[[df0ac723 3f307000] [de2b89f5 5f03fc51] [5ee08c1e 5ea324a7] [5ee08c1e dea324a7] [de2b89f5 df03fc51]]",
			"FromSpectrum":         "[[ddde0b6b 3e0d2667] [dd093b2b ddd32d4f] [5db3a34b dd8283b9] [5db3a34b 5d8283b9] [dd093b2b 5dd32d4f]]",
			"RingTimes":            "fail",
			"RingSolve":            "[[00000000 d2cccccd] [00000000 d399999a] [00000000 dfec1e4a] [d2cccccd 524ccccd] [00000000 d2cccccd]]",
			"RingMatrix":           "4 x 4 [40881e00 3f240c00 bf7ce800 3d7f4000 3d7f4000 40881e00 3f240c00 bf7ce800 bf7ce800 3d7f4000 40881e00 3f240c00 3f240c00 bf7ce800 3d7f4000 40881e00]",
			"ShiftMatrix":          "4 x 4 [40881e00 3d7f4000 bf7ce800 3f240c00 3d7f4000 40881e00 3d7f4000 bf7ce800 bf7ce800 3d7f4000 40881e00 3d7f4000 3f240c00 bf7ce800 3d7f4000 40881e00]",
			"ShiftTimes":           "[bfe825f2 bfc0ef33 bf7db118 3ef2bb7d]",
			"ReflectionsOf":        "[3d695216 be713075 3e2b5846] [3c70074a be6e186b 3e2b5846] 407a40a8",
			"ShiftSolve":           "[be1f0865 bd771bd2 bdf26fad 3d238076]",
			"ThirdsTimes":          "[410da34b 3e43d795 bd0edb38 bf9b8505 be8f7c5a 400df962]",
			"ThirdsSolve":          "[3f8b1d71 bf031832 be7055c9 bdc496ef 3e1ad338 3e6fba92]",
			"ThirdsRing":           "[3f92bcc6 bf06732e be6e11bc bdf454ee 3e747a8e 3f0de875]",
			"ThirdsShared":         "3 [9fa472d1 be72aee1 bdefe69f be3e8d8c 3d77f9ca 3ebfe330][b3aaaaab c2aaf6a7 c0297246 be20b848 bc81e869 3e7c2ba2][3f8bc377 bf4d108c be8f8d6f 3ea01731 202dfb3d 3e41fd54]",
			"DividedOf":            "[bea35000 c079f91d c0044fdc c0264f8f c3b8f25a c3d142de c4b04714 c4e25ac2 c5ce8ebe a63e8408 a6bc5005 28001934 29519f5c 2a30535c 2a75bb5c ab078385 ab1c4d45 2b259def 2ba2d0fe 2e8d2a26 b0d8153c b0b7dc9e b1011468 b237dfac]",
			"NewtonAt":             "57ca612f",
			"UpdatedSolve":         "[5b000000 5b000000 59c00000 d5800000 d9400000 56000000 55800000]",
			"CrossOf":              "6 x 10 [be59d000 bf311c00 ff7fffff 3f3d6400 bea35000 3d3ec000 beabd000 bddd0000 60ad78ec bf1a7c00 3f153400 40400000 3ec21800 bf548400 3f44b800 bcc18000 3f650400 3f29cc00 ff7fffff bf09f800 800a8a3a 803f0b4d 3f2e7fff 00057bdf 800d0e66 8000668e 800ffade 800eebc7 3f505bff 001b3314 000376bf 000e328f 3e902fff 8008ded0 0004ea03 80007b7d 0005660a 0002bba4 bda9dfff 000401f5 1ea1c431 1fd02ab6 bd52bfff 9ee668f1 1ed5486d 9c51cb0b 1ef84c9d 1eb8181b df0ac723 9e959606 803d3311 811888fc bf4563ff 0061f27e 8051a3c6 00036aa9 805e2923 8042561d 403fffff 0024d947] [0 1] [2 8]",
			"StoreSheets":          "4d415431076b687077657079010100202cbedd194d4154310569686166610302009c20bf008052bf0000008000000dbf0020e8bd00d00c3ef9cf4d41543101690202003425bf23c70adf0008453f0000003fde114d4154310673787979767303019976967e0000b33d0000463dd17d",
			"RecoverSheets":        "khpwepy 1 x 1 [be2c2000];ihafa 3 x 2 [bf209c00 bf528000 80000000 bf0d0000 bde82000 3e0cd000];i 2 x 2 [bf253400 df0ac723 3f450800 3f000000];sxyyvs 3 x 1 [7e967699 3db30000 3d460000]; 111",
			"RecoverSheets broken": "khpwepy 1 x 1 [be2c2000];ihafa 3 x 2 [bf209c00 bf528000 80000000 bf0d0000 bde82000 3e0cd000]; 58",
			"StoreSheet":           "4d415431076b687077657079010100202cbedd19",
			"LoadSheet":            "khpwepy 1 x 1 [be2c2000];",
			"LoadSheet broken":     "fail",
		}},
	}
	for _, r := range rows {
		got := fewTexts(fewInputs(r.kind, r.seed))
		wantTexts(t, fmt.Sprint("kind ", r.kind), got, r.want)
		wantBool(t, "all functions are told", len(got) == len(r.want), true)
	}
}

func TestHashesOfFew(t *testing.T) {
	hashes := map[string]uint64{
		"SpectrumOf":           0x363f2171f5a0b09b,
		"FromSpectrum":         0x8deef002affcfbe7,
		"RingTimes":            0x89161616ad5af14b,
		"RingSolve":            0xab6530439795aa7c,
		"RingMatrix":           0x3090fbc31e8e883d,
		"ShiftMatrix":          0xc7646a0e0787fef2,
		"ShiftTimes":           0x95e10c9b6ad819e6,
		"ReflectionsOf":        0x4ab422c8c76cfa7d,
		"ShiftSolve":           0x076dfd0054c273df,
		"ThirdsTimes":          0x186355f8038f8495,
		"ThirdsSolve":          0x7b7253ec49894580,
		"ThirdsRing":           0x8319645551d1091d,
		"ThirdsShared":         0x525ee83bf15fbbee,
		"DividedOf":            0xce6c346325895dd3,
		"NewtonAt":             0x3ba943c792a766c6,
		"UpdatedSolve":         0xe3f7298207bebe51,
		"CrossOf":              0x8e22a4f89cd58e64,
		"StoreSheets":          0x3ce5101b37b1b65e,
		"RecoverSheets":        0xedcdd751c8bc2e84,
		"RecoverSheets broken": 0x43dc344392d56e58,
		"StoreSheet":           0x04c8102399be2e09,
		"LoadSheet":            0xe54f070f6d21d68f,
		"LoadSheet broken":     0x33ab3e7901444725,
	}
	var texts []map[string]string
	for kind := range 4 {
		for seed := range int64(300) {
			texts = append(texts, fewTexts(fewInputs(kind, int64(1000000*kind)+seed)))
		}
	}
	wantHashes(t, texts, hashes)
}
