package tests

import (
	"fmt"
	"strings"
	"testing"

	"loop.example/g01327/impl"
)

// deskInput is a desk and lines that are carried out there, in the tables.
type deskInput struct {
	desk    impl.Desk
	lines   []string
	at, bit int64 // where their journal is broken or cut
}

func (d *dice) matrix(kind int, rows, columns int64) impl.Matrix {
	return matrix(rows, columns, d.extremes(kind, rows*columns)...)
}

func (d *dice) chain(kind int, count int64) impl.Chain {
	mids := d.extremes(kind, count)
	return chain(mids, d.extremes(kind, count-1)...)
}

// side returns n, mostly.
func (d *dice) side(n int64) int64 {
	if d.next()%8 == 0 {
		return 1 + d.next()%5
	}
	return n
}

// one returns one of some words.
func (d *dice) one(words ...string) string {
	return words[d.next()%int64(len(words))]
}

// word returns the word of a line with a name, for parts of n rows.
func (d *dice) word(kind int, n int64, name string) string {
	switch name {
	case "matrix", "mul":
		rows := d.side(n)
		return slowMatrixText(d.matrix(kind, rows, d.side(n)))
	case "vector":
		return slowNumbers(d.extremes(kind, d.side(n)))
	case "chain":
		return slowChainText(d.chain(kind, d.side(n)))
	case "whole":
		rows := d.side(min(n, 6))
		return slowWholeText(d.whole(kind, rows, d.side(min(n, 6))))
	case "below", "round":
		return slowNumbers(d.extremes(kind, 1+d.next()%10/9))
	}
	if d.next()%8 == 0 {
		return d.one("-1", "01", "+1", "x", "65", "33", "4", "none", "-0", "1000000000000001", "3f800000", "")
	}
	switch name {
	case "rank":
		return d.one("2", "3", "5", "7", "11", "13", "991", "997")
	case "value":
		return fmt.Sprint(d.next() % n)
	}
	return fmt.Sprint(1 + d.next()%6)
}

// spoil changes a byte of a line, or adds one.
func (d *dice) spoil(line string) string {
	at := d.next() % int64(len(line)+1)
	switch d.next() % 4 {
	case 0:
		return line[:at] + " " + line[at:]
	case 1:
		return line[:at] + d.one("x", "0", ",", ";", "f", "-", "\x00") + line[at:]
	case 2:
		return line + " "
	}
	return line[:at]
}

func (d *dice) deskLine(kind int, n int64) string {
	line := d.one("flip", "even", "times", "trace", "norms", "signs", "solve", "det", "normal", "echelon", "reals", "matrix", "vector", "chain", "whole")
	if d.next()%2 == 0 {
		line = d.one("matrix", "vector", "chain", "whole", "mul", "power", "exp", "values", "singular", "below", "value", "rank", "round")
		if line == "values" && d.next()%4 > 0 { // of a symmetric square
			line = "singular"
		}
		line += " " + d.word(kind, n, line)
	}
	if d.next()%10 == 0 {
		return d.spoil(line)
	}
	return line
}

func deskInputs(kind int, seed int64) deskInput {
	d := &dice{seed}
	n := 1 + d.next()%5
	if d.next()%6 == 0 {
		n = 1 + d.next()%impl.MaxSide
	}
	in := deskInput{desk: impl.Desk{Matrix: d.matrix(kind, n, d.side(n)), Vector: d.extremes(kind, d.side(n)), Chain: d.chain(kind, d.side(n))}}
	in.desk.Whole = d.whole(kind, min(n, 6), d.side(min(n, 6)))
	for range 20 + d.next()%10 {
		in.lines = append(in.lines, d.deskLine(kind, n))
		if d.next()%12 == 0 {
			in.lines = append(in.lines, "even", "values "+fmt.Sprint(d.next()%8))
		}
	}
	in.lines = append(in.lines, "matrix", "vector", "chain", "whole")
	in.at, in.bit = d.next(), d.next()%9
	return in
}

// script returns lines, each followed by a newline.
func script(lines []string) string {
	var text strings.Builder
	for _, line := range lines {
		text.WriteString(line + "\n")
	}
	return text.String()
}

// nameOf returns the first word of a line, if there is a form with it.
func nameOf(line string) string {
	name, _, _ := strings.Cut(line, " ")
	for _, form := range forms() {
		if known, _, _ := strings.Cut(form, " "); known == name {
			return name
		}
	}
	return "other lines"
}

// deskTexts tells what the functions of chapter 8 return: the outputs of lines by their names,
// and what scripts and journals of these lines lead to.
func deskTexts(in deskInput) map[string]string {
	texts, tell := telling()
	after, out, ok := impl.RunDesk(in.desk, script(in.lines))
	tell("RunDesk", ok, toldDesk(after), impl.ValidDesk(after), impl.SameDesk(after, in.desk))
	outputs := strings.Split(out, "\n")
	for i, line := range in.lines {
		texts[nameOf(line)] += outputs[i] + ";"
	}
	refused, others, ok := impl.CountOutputs(out)
	tell("CountOutputs", ok, refused, others)
	journal, ok := impl.JournalOf(in.lines)
	tell("JournalOf", ok, fmt.Sprintf("%q", journal))
	text := broken(journal, in.at, in.bit)
	lines, size, ok := impl.RecoverJournal(text)
	tell("RecoverJournal", ok, len(lines), size)
	after, count, ok := impl.RunJournal(in.desk, text)
	tell("RunJournal", ok, toldDesk(after), count)
	return texts
}

func TestTableOfDesks(t *testing.T) {
	rows := []struct {
		kind int
		seed int64
		want map[string]string
	}{
		{0, 170, map[string]string{
			"below":          "0;",
			"chain":          "ok;be9e6000,3ecf3000;be426000;",
			"det":            "0;",
			"echelon":        "ok;ok;ok;",
			"even":           "ok;ok;ok;no;",
			"exp":            "ok;",
			"flip":           "ok;",
			"matrix":         "2,2;be9a2892,3f4a2d66,3f4a2d66,3f59024a;2,2;be9a2892,3f4a2d66,3f4a2d66,3f59024a;ok;2,5;bf800000,00000000,00000000,00000000,00000000,3f800000,00000000,3f800000,3f800000,00000000;",
			"mul":            "ok;",
			"normal":         "2,0;",
			"norms":          "40330d00,3ff3a000,3ff2ebc9;",
			"power":          "ok;",
			"rank":           "1;1;",
			"reals":          "ok;ok;",
			"round":          "ok;",
			"signs":          "no;",
			"singular":       "no;",
			"trace":          "3f0bee01;",
			"value":          "beb69b57;",
			"values":         "be9a2892,3f59024a;bf3407cb,3f9ffae6;00000000,40000000;",
			"vector":         "3e368000,3f26c400;",
			"whole":          "ok;2,2;2,0,0,0;2,5;-1,0,0,0,0,1,0,1,1,0;",
			"other lines":    "what;",
			"RunDesk":        "2 x 5 [bf800000 00000000 00000000 00000000 00000000 3f800000 00000000 3f800000 3f800000 00000000], [3e368000 3f26c400], [be9e6000 3ecf3000] beside [be426000], 2 x 5 [-1 0 0 0 0 1 0 1 1 0] true false",
			"CountOutputs":   "4 34",
			"JournalOf":      "\"36746 power 1\\n58505 chain be9e6000,3ecf3000;be426000\\n52678 exp 1\\n57406 mul 2,2;3e001000,3f475000,3ed18000,3d3a8000\\n10959 whole 2,2;0,0,2,0\\n64442 even\\n25095 values 0\\n55142 echelon\\n58012 matrix\\n54701 echelon\\n5034 trace\\n40525 rank 7\\n30651 value 0\\n7799 even\\n11008 values 4\\n13946 matrix\\n57302 below bf602800\\n4846 flip\\n21798 rank 11\\n61537 whole\\n33760 reals\\n48361 even\\n39629 values 2\\n63523 matrix 2,5;bf7b9c00,3ec32000,3f057c00,3d7e0000,3e4f4000,3f6ba400,3e53c000,3f4d2c00,3f4c3800,3d91e000\\n26793 echelon\\n2264 norms\\n44523 even\\n14628 det\\n39426 singular 1\\n59933 normal\\n16794 round 3f5b1400\\n46609 reals\\n14763 signs\\n45119 eche lon\\n24100 matrix\\n959 vector\\n46607 chain\\n1016 whole\\n\"",
			"RecoverJournal": "3 65",
			"RunJournal":     "2 x 2 [3fb6788e bf95f528 3f8428de 3f76678b], [3e368000 3f26c400], [be9e6000 3ecf3000] beside [be426000], 2 x 2 [-1 -3 1 3] 3",
		}},
		{1, 1000013, map[string]string{
			"below":          "1;",
			"chain":          "ok;ok;00000000,00000000,40000000,3f800000;3f800000,00000000,c0000000;",
			"det":            "0;",
			"echelon":        "what;",
			"even":           "ok;ok;ok;",
			"exp":            "ok;",
			"flip":           "ok;ok;",
			"matrix":         "ok;2,1;00000000,00000000;",
			"mul":            "ok;ok;",
			"normal":         "0;0;",
			"norms":          "00000000,00000000,00000000;",
			"power":          "ok;no;",
			"rank":           "no;",
			"reals":          "ok;ok;",
			"round":          "ok;",
			"signs":          "40000000;",
			"solve":          "no;no;",
			"value":          "00000000;00000000;",
			"values":         "c0000000;42800000;3f800000;",
			"vector":         "c0000000,bf800000,3f800000,3f800000;",
			"whole":          "1,1;64;1,1;0;1,1;0;",
			"other lines":    "what;what;",
			"RunDesk":        "2 x 1 [00000000 00000000], [c0000000 bf800000 3f800000 3f800000], [00000000 00000000 40000000 3f800000] beside [3f800000 00000000 c0000000], 1 x 1 [0] true false",
			"CountOutputs":   "7 32",
			"JournalOf":      "\"26743 signs\\n41302 even\\n38439 values 0\\n62855 reals\\n38834 even\\n42947 values 6\\n49161 ;times\\n17414 chain 00000000;none\\n40203 solve\\n25484 whole\\n36410 round 00000000\\n60652 mul 1,1;40000000\\n23939 mul 1,1;00000000\\n37252 echelon \\n38430 exp 5\\n4525 rank -1\\n39924 power 3\\n32356 whole\\n50617 even\\n31726 values 7\\n41060 normal\\n39507 normal\\n53295 below 00000000\\n43180 det\\n16569 value 0\\n44185 flip\\n17849 value 0\\n60930 reals\\n57908 flip\\n31432 chain 00000000,00000000,40000000,3f800000;3f800000,00000000,c0000000\\n44102 norms\\n47732 power \\n22536 matrix 2,1;00000000,00000000\\n21629 ma0trix\\n18861 solve\\n7674 matrix\\n59182 vector\\n34671 chain\\n59694 whole\\n\"",
			"RecoverJournal": "9 127",
			"RunJournal":     "1 x 1 [42800000], [c0000000 bf800000 3f800000 3f800000], [00000000] beside [], 1 x 1 [64] 9",
		}},
		{2, 2000031, map[string]string{
			"chain":          "ok;ba9f6800,babe0800,43d1e800;42ace800,bb1f6800;ba9f6800,babe0800,43d1e800;42ace800,bb1f6800;",
			"det":            "no;",
			"even":           "ok;ok;ok;",
			"exp":            "ok;",
			"flip":           "ok;",
			"matrix":         "ok;ok;ok;1,3;bae4fc00,b7ee8000,c706f000;",
			"mul":            "ok;",
			"normal":         "4,0,0;",
			"norms":          "4f118b3e,4eb79cb3,4ed41524;",
			"power":          "no;",
			"rank":           "1;1;",
			"reals":          "ok;",
			"round":          "ok;ok;",
			"singular":       "4818a000,4146c43c,3f17680d;",
			"solve":          "ok;ok;",
			"trace":          "no;",
			"value":          "no;",
			"values":         "4587f000,479cbc00,48ef0400;c818a000,bf17d000,41463800;",
			"vector":         "391fb000,b8cc5000,3a1bc000;ok;ok;80000000,c24304dc,c1bd7f12;",
			"whole":          "ok;3,1;0,0,8;",
			"other lines":    "what;",
			"RunDesk":        "1 x 3 [bae4fc00 b7ee8000 c706f000], [80000000 c24304dc c1bd7f12], [ba9f6800 babe0800 43d1e800] beside [42ace800 bb1f6800], 3 x 1 [0 0 8] true false",
			"CountOutputs":   "5 31",
			"JournalOf":      "\"33062 vector\\n44507 trxace\\n2160 mul 3,3;b79c3800,3f165000,be556000,c7b3e000,3cb8cc00,b7d61800,35989000,c5dc0000,45849800\\n9290 norms\\n50988 whole 3,3;0,0,0,4,0,-4,4,0,-4\\n38457 even\\n20380 matrix 3,3;479cbc00,3945ac00,44b5f000,4292dc00,48ef0400,bb0a2800,c1404400,bd1a6800,4587f000\\n1524 even\\n12600 values 0\\n47164 reals\\n48136 rank 3\\n60502 solve\\n49093 vector 44a03400,39098000,4901b800\\n45928 exp 3\\n44017 matrix 3,3;bf17d000,3fe16000,3f6bac00,c0b0cc00,c818a000,36a80000,b944b800,b4a00000,41463800\\n57839 normal\\n4143 singular 4\\n63727 even\\n58374 values 0\\n748 round b8a06000\\n26249 matrix 3,1;bae4fc00,b7ee8000,c706f000\\n51732 round b9786000\\n28071 trace\\n40154 vector c583b800,bbd7f000,c61b6000\\n22075 det\\n4971 chain ba9f6800,babe0800,43d1e800;42ace800,bb1f6800\\n43570 solve\\n49873 power 1\\n19390 value \\n3390 chain\\n18652 rank 13\\n51394 flip\\n42646 matrix\\n6857 vector\\n21555 chain\\n23488 whole\\n\"",
			"RecoverJournal": "1 13",
			"RunJournal":     "3 x 3 [3827c000 35908000 48535800 43422800 3840e000 c5141800 bdeb2400 43383000 39868000], [391fb000 b8cc5000 3a1bc000], [b6c94000 3d7de800 c1eb0000] beside [b81f4000 3ecb1800], 3 x 3 [9 4 7 6 0 0 0 0 0] 1",
		}},
		{3, 3000103, map[string]string{
			"below":          "what;",
			"chain":          "3f1bfc00,be624000,bf2b3400;bf39d400,bc190000;ok;ok;3f05f000,3ee92000,bf800000,be842800,40400000;3ea1f800,3e287000,bc320000,ff61b1e6;3f05f000,3ee92000,bf800000,be842800,40400000;3ea1f800,3e287000,bc320000,ff61b1e6;",
			"even":           "ok;ok;ok;",
			"exp":            "what;no;",
			"flip":           "ok;",
			"matrix":         "3,3;d2b58e3a,d1ba9906,5115e2ee,d262b21a,d0fcd0f5,d22296d8,d2d4ce88,d2b86659,d2675a13;",
			"mul":            "what;ok;",
			"normal":         "no;",
			"norms":          "52ff5b38,52ff5b38,532c2eec;",
			"power":          "ok;",
			"rank":           "3;3;",
			"reals":          "ok;ok;",
			"round":          "no;",
			"signs":          "c9389d80,d2a0d515,5c6d72f5;d392fbef,66ddc23c,f95c3e0d;",
			"singular":       "49934a16,494775ac,487918df;",
			"solve":          "no;",
			"times":          "ok;",
			"values":         "c9106d84,49191460,492ff6a4;c91056f1,49190642,492fee2c;",
			"vector":         "ok;4edda300,d20c8738,d2bd3561;4edda300,d20c8738,d2bd3561;4edda300,d20c8738,d2bd3561;",
			"whole":          "ok;3,3;548978,-597110,843741,258101,828256,646203,182863,-212855,885696;",
			"other lines":    "what;",
			"RunDesk":        "3 x 3 [d2b58e3a d1ba9906 5115e2ee d262b21a d0fcd0f5 d22296d8 d2d4ce88 d2b86659 d2675a13], [4edda300 d20c8738 d2bd3561], [3f05f000 3ee92000 bf800000 be842800 40400000] beside [3ea1f800 3e287000 bc320000 ff61b1e6], 3 x 3 [548978 -597110 843741 258101 828256 646203 182863 -212855 885696] true false",
			"CountOutputs":   "8 29",
			"JournalOf":      "\"20835 chain\\n20345 chain 3dd42000,3f580000,3ea97000;3f631400,bee87800\\n23216 reals\\n20857 even\\n61360 values 7\\n19039 chain 3f05f000,3ee92000,bf800000,be842800,40400000;3ea1f800,3e287000,bc320000,ff61b1e6\\n35929 expf x\\n37379 signs\\n26434 even\\n50541 reals\\n59288 mul 2,3; bf1cf400,bf681800,bf124000,bf305c00,3f5ddc00,3ef54800\\n50197 exp 3 \\n55017 singular 3\\n45317 even\\n11573 values 1\\n20561 normal\\n25878 vector 3dde6000,bede9000,bf747800\\n44481 power 2\\n51004 flip\\n23840 below bf0e84 00\\n26504 rank 991\\n3736 times\\n56773 vector\\n23412 chain\\n16792 round be7d2000\\n2797 norms\\n16097 signs\\n14039 vector\\n3346 mul 3,3;bf6a5800,be084000,3e186000,bf42b400,be302000,beea1000,bf73b800,bf608000,bf1c6400\\n999 rank 7\\n13486 whole 3,3;548978,-597110,843741,258101,828256,646203,182863,-212855,885696\\n41571 exp 1\\n49328 solve\\n38477 matrix\\n51334 vector\\n11996 chain\\n32239 whole\\n\"",
			"RecoverJournal": "26 556",
			"RunJournal":     "3 x 3 [52b88651 d11e350e 51689c60 d11e350e 52c233c0 d1089003 51689c60 d1089003 52d135ab], [4edda300 d20c8738 d2bd3561], [3f05f000 3ee92000 bf800000 be842800 40400000] beside [3ea1f800 3e287000 bc320000 ff61b1e6], 3 x 3 [-232733 -546153 860982 -142100 531380 -393569 84906 648584 457537] 26",
		}},
	}
	for _, r := range rows {
		got := deskTexts(deskInputs(r.kind, r.seed))
		wantTexts(t, fmt.Sprint("kind ", r.kind), got, r.want)
		wantBool(t, "all lines are told", len(got) == len(r.want), true)
	}
}

func TestHashesOfDesks(t *testing.T) {
	hashes := map[string]uint64{
		"below":          0x1e87b228bc763501,
		"chain":          0xc5542074116c97b0,
		"det":            0x90bebc2841ae9b80,
		"echelon":        0x8c7e954b111d5c49,
		"even":           0x8809608aaf3d7ec0,
		"exp":            0x842e7770c0f6a32c,
		"flip":           0xef62fe278f8667ef,
		"matrix":         0xcce638867f1749ed,
		"mul":            0x15fce0c6c9444e7e,
		"normal":         0x22789fcf094a00e1,
		"norms":          0x6aa8ef9d3e59f044,
		"power":          0x85ae6f1cad2629ad,
		"rank":           0xca033d6ef153252c,
		"reals":          0x264df96331d1ed98,
		"round":          0x8959ca85df81419d,
		"signs":          0xb36721b545382780,
		"singular":       0x1f11cb2760b0d087,
		"solve":          0xa618cff5c9b43baa,
		"times":          0x146bf0945c14a3a4,
		"trace":          0xdefa1a34f6ffbd35,
		"value":          0x6a81a75a4f50692f,
		"values":         0xf2a86dd2cec13804,
		"vector":         0x3888c955e53bb619,
		"whole":          0x5954890baee52ca1,
		"other lines":    0xc7aff7f3d141ae3a,
		"RunDesk":        0x5179d43883609ad8,
		"CountOutputs":   0xef5651656e4ce07f,
		"JournalOf":      0x88064b86ffddc273,
		"RecoverJournal": 0xa91b63439e2c701d,
		"RunJournal":     0xdc75c8734fc85a7e,
	}
	var texts []map[string]string
	for kind := range 4 {
		for seed := range int64(300) {
			texts = append(texts, deskTexts(deskInputs(kind, int64(1000000*kind)+seed)))
		}
	}
	wantHashes(t, texts, hashes)
}
