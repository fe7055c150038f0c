package tests

import (
	"fmt"
	"strings"
	"testing"

	"loop.example/g01327/impl"
)

// goodSheets are valid sheets of all kinds.
func goodSheets() []impl.Sheet {
	return []impl.Sheet{
		sheet("a", matrix(1, 2, 1, 2)), sheet("abcdefgh", matrix(2, 1, minusZero, number(1))), sheet("zz", matrix(1, 1, -greatest)), sheet("ring", matrix(2, 2, 0, number(0x807fffff), 0.1, -1.5)), sheet("cbt", matrix(1, 1, 1)), sheet("z", matrix(1, 1, 0)),
		sheet("most", filled(12, 12, greatest)), sheet("tall", filled(12, 1, number(0x80000001))), sheet("wide", filled(1, 12, minusZero)), sheet("name", matrix(3, 3, 1, 2, 3, 4, 5, 6, 7, 8, 9)),
	}
}

// checked returns bytes with their check number, and more that is added to it, behind them.
func checked(bytes string, more int) string {
	check := 0
	for i := range len(bytes) {
		check = (863*check + int(bytes[i]) + 157) % 65003
	}
	check += more
	return bytes + string([]byte{byte(check), byte(check >> 8)})
}

// slowSheet returns the bytes of a sheet without the program.
func slowSheet(s impl.Sheet) string {
	bytes := "MAT1" + string([]byte{byte(len(s.Name))}) + s.Name + string([]byte{byte(s.Matrix.Rows), byte(s.Matrix.Columns)})
	for _, x := range s.Matrix.Numbers {
		for shift := 0; shift < 32; shift += 8 {
			bytes += string([]byte{byte(told(x) >> shift)})
		}
	}
	return checked(bytes, 0)
}

func slowSheets(list []impl.Sheet) string {
	var all strings.Builder
	for _, s := range list {
		all.WriteString(slowSheet(s))
	}
	return all.String()
}

func TestValidSheet(t *testing.T) {
	for _, s := range goodSheets() {
		wantBool(t, "ValidSheet "+s.Name, impl.ValidSheet(s), true)
	}
	for _, s := range notSheets() {
		wantBool(t, fmt.Sprintf("ValidSheet %q %s", s.Name, toldMatrix(s.Matrix)), impl.ValidSheet(s), false)
	}
	for n := range 12 {
		s := sheet(strings.Repeat("q", n), matrix(1, 1, 1))
		wantBool(t, "ValidSheet "+s.Name, impl.ValidSheet(s), 1 <= n && n <= 8)
	}
}

func TestSameSheets(t *testing.T) {
	all := append(goodSheets(), notSheets()...)
	for i, s := range all {
		for k, other := range all {
			same := s.Name == other.Name && toldMatrix(s.Matrix) == toldMatrix(other.Matrix)
			what := fmt.Sprint("SameSheets ", i, " and ", k)
			wantBool(t, what, impl.SameSheets([]impl.Sheet{s}, []impl.Sheet{other}), same)
			wantBool(t, what+" behind others", impl.SameSheets([]impl.Sheet{all[1], s}, []impl.Sheet{all[1], other}), same)
			wantBool(t, what+" before others", impl.SameSheets([]impl.Sheet{s, all[1]}, []impl.Sheet{other, all[1]}), same)
		}
	}
	for n := range 10 {
		for m := range 10 { // also more than MaxSheets
			wantBool(t, "SameSheets of other lengths", impl.SameSheets(all[:n], all[:m]), n == m)
		}
	}
	wantBool(t, "SameSheets nil and empty", impl.SameSheets(nil, []impl.Sheet{}), true)
	wantBool(t, "SameSheets in another order", impl.SameSheets([]impl.Sheet{all[0], all[1]}, []impl.Sheet{all[1], all[0]}), false)
	wantBool(t, "SameSheets nil and empty numbers", impl.SameSheets([]impl.Sheet{{}}, []impl.Sheet{sheet("", matrix(0, 0, []float32{}...))}), true)
	wantBool(t, "SameSheets of no numbers", impl.SameSheets([]impl.Sheet{sheet("", matrix(1, 1, number(0x7fc00000)))}, []impl.Sheet{sheet("", matrix(1, 1, number(0xff800001)))}), true)
	wantBool(t, "SameSheets of both zeros", impl.SameSheets([]impl.Sheet{sheet("a", matrix(1, 1, 0))}, []impl.Sheet{sheet("a", matrix(1, 1, minusZero))}), false)
	wantBool(t, "SameSheets of other sides", impl.SameSheets([]impl.Sheet{sheet("a", matrix(1, 2, 0, 0))}, []impl.Sheet{sheet("a", matrix(2, 1, 0, 0))}), false)
}

func TestStoreSheet(t *testing.T) {
	texts := []string{
		"MAT1\x01a\x01\x02\x00\x00\x80?\x00\x00\x00@D}", "MAT1\x08abcdefgh\x02\x01\x00\x00\x00\x80\x01\x00\x00\x00\x01\xb8", "MAT1\x02zz\x01\x01\xff\xff\x7f\xff9\xd9", "MAT1\x04ring\x02\x02\x00\x00\x00\x00\xff\xff\x7f\x80\xcd\xcc\xcc=\x00\x00\xc0\xbf\x13Q",
		"MAT1\x03cbt\x01\x01\x00\x00\x80?\x00\x00",
	}
	for i, s := range goodSheets() {
		bytes, ok := impl.StoreSheet(s)
		wantBool(t, fmt.Sprintf("StoreSheet %s: %q", s.Name, bytes), ok && bytes == slowSheet(s), true)
		if i < len(texts) {
			wantBool(t, fmt.Sprintf("StoreSheet %s: %q", s.Name, bytes), bytes == texts[i], true)
		}
	}
	for _, s := range notSheets() {
		bytes, ok := impl.StoreSheet(s)
		wantBool(t, fmt.Sprintf("StoreSheet of no sheet: %q", bytes), ok || bytes != "", false)
	}
}

func TestLoadSheet(t *testing.T) {
	for _, s := range goodSheets() {
		got, ok := impl.LoadSheet(slowSheet(s))
		wantBool(t, "LoadSheet "+s.Name, ok && got.Name == s.Name, true)
		wantMatrix(t, "LoadSheet "+s.Name, got.Matrix, ok, s.Matrix)
	}
}

// wantNotLoaded checks that there is no sheet whose bytes are these, nor one that these begin with.
func wantNotLoaded(t *testing.T, bytes string) {
	t.Helper()
	what := fmt.Sprintf("%q", bytes)
	got, ok := impl.LoadSheet(bytes)
	wantNoSheet(t, "LoadSheet "+what, got, ok)
	list, size, ok := impl.RecoverSheets(bytes)
	wantBool(t, "RecoverSheets always succeeds", ok, true)
	wantSheets(t, "RecoverSheets "+what, list, size, nil, 0)
}

// notStored are bytes with right check numbers that are nevertheless not those of a sheet.
func notStored() []string {
	one := "\x01\x01\x00\x00\x80?" // a matrix of the number 1
	list := []string{
		"", "M", "MAT1", "MAT2\x01a" + one, "mat1\x01a" + one, "MAT\x01a" + one, "MAT1a" + one, " MAT1\x01a" + one, "TAM1\x01a" + one, "MAT0\x01a" + one, "\x01a" + one,
		// names that are none, or are not as long as is told
		"MAT1\x00" + one, "MAT1\x09abcdefghi" + one, "MAT1\x01A" + one, "MAT1\x01{" + one, "MAT1\x01`" + one, "MAT1\x02a\x00" + one, "MAT1\x02\xc3\xa9" + one, "MAT1\x02a" + one, "MAT1\x01ab" + one, "MAT1\xffa" + one, "MAT1\xff" + strings.Repeat("a", 255) + one, "MAT1\x01a",
		// sides that are 0, or too great, and matrices with fewer or more numbers than are told
		"MAT1\x01a\x00\x01", "MAT1\x01a\x01\x00", "MAT1\x01a\x00\x00", "MAT1\x01a\x00\x01\x00\x00\x80?", "MAT1\x01a\x01\x00\x00\x00\x80?", "MAT1\x01a\x01", "MAT1\x01a\x01\x01", "MAT1\x01a\x01\x02\x00\x00\x80?", "MAT1\x01a\x02\x01\x00\x00\x80?", "MAT1\x01a\x01\x01\x00\x00\x80", "MAT1\x01a" + one + "\x00", "MAT1\x01a" + one + "\x00\x00\x80?",
		"MAT1\x01a\x0d\x01" + strings.Repeat("\x00\x00\x80?", 13), "MAT1\x01a\x01\x0d" + strings.Repeat("\x00\x00\x80?", 13), "MAT1\x01a\x0d\x0d" + strings.Repeat("\x00\x00\x80?", 169), "MAT1\x01a\xff\xff" + strings.Repeat("\x00\x00\x80?", 255*255), "MAT1\x01a\xff\xff", "MAT1\x01a\x80\x80" + strings.Repeat("\x00\x00\x80?", 128*128),
		// numbers that are not finite
		"MAT1\x01a\x01\x01\x00\x00\x80\x7f", "MAT1\x01a\x01\x01\x00\x00\x80\xff", "MAT1\x01a\x01\x01\x00\x00\xc0\x7f", "MAT1\x01a\x01\x01\x01\x00\x80\xff", "MAT1\x01a\x01\x02\x00\x00\x80?\x00\x00\xc0\x7f", "MAT1\x01a\x02\x01\xff\xff\xff\xff\x00\x00\x80?",
	}
	for i, bytes := range list {
		list[i] = checked(bytes, 0)
	}
	return list
}

func TestLoadSheetFails(t *testing.T) {
	for _, bytes := range append(notStored(), "", "\x00", "x", "MAT1", strings.Repeat("MAT1", 1000), strings.Repeat("\xff", 1000), "none") {
		wantNotLoaded(t, bytes)
	}
	for _, s := range goodSheets() { // check numbers that are others, or have their bytes exchanged
		bytes := slowSheet(s)
		body, end := bytes[:len(bytes)-2], len(bytes)
		for _, more := range []int{1, -1, 256, -256, 1 << 8, 1 << 15} {
			wantNotLoaded(t, checked(body, more))
		}
		if bytes[end-1] != bytes[end-2] {
			wantNotLoaded(t, body+bytes[end-1:]+bytes[end-2:end-1])
		}
	}
	wantNotLoaded(t, checked("MAT1\x03cbt\x01\x01\x00\x00\x80?", 65003)) // the check number is 0, and not 65003
	wantNotLoaded(t, "MAT1\x03cbt\x01\x01\x00\x00\x80?\x00")
}

func TestBrokenSheets(t *testing.T) {
	for _, s := range goodSheets()[:6] {
		bytes := slowSheet(s)
		for end := range bytes {
			wantNotLoaded(t, bytes[:end])
		}
		for i := range bytes {
			wantNotLoaded(t, bytes[:i]+bytes[i+1:])
			for b := range 256 {
				if other := string([]byte{byte(b)}); other != bytes[i:i+1] {
					wantNotLoaded(t, bytes[:i]+other+bytes[i+1:])
				}
			}
		}
		for _, more := range []string{"x", "\x00", " ", "\n", "M", bytes[:5], bytes, "\xff\xff\xff\xff"} {
			got, ok := impl.LoadSheet(bytes + more)
			wantNoSheet(t, fmt.Sprintf("LoadSheet with %q behind it", more), got, ok)
			got, ok = impl.LoadSheet(more + bytes)
			wantNoSheet(t, fmt.Sprintf("LoadSheet with %q before it", more), got, ok)
		}
	}
}

func TestStoreSheets(t *testing.T) {
	all := goodSheets()
	for n := range len(all) + 1 {
		bytes, ok := impl.StoreSheets(all[:n])
		want := ""
		if n <= impl.MaxSheets {
			want = slowSheets(all[:n])
		}
		wantBool(t, fmt.Sprint("StoreSheets of ", n), ok == (n <= impl.MaxSheets) && bytes == want, true)
	}
	bytes, ok := impl.StoreSheets(nil)
	wantBool(t, "StoreSheets nil", ok && bytes == "", true)
	bytes, ok = impl.StoreSheets([]impl.Sheet{all[0], all[0]})
	wantBool(t, "StoreSheets of equal sheets", ok && bytes == slowSheet(all[0])+slowSheet(all[0]), true)
	for _, bad := range notSheets() {
		for n := 1; n <= impl.MaxSheets; n += 7 {
			for i := range n {
				list := append([]impl.Sheet{}, all[:n]...)
				list[i] = bad
				bytes, ok := impl.StoreSheets(list)
				wantBool(t, fmt.Sprintf("StoreSheets with %q %s", bad.Name, toldMatrix(bad.Matrix)), ok || bytes != "", false)
			}
		}
	}
}

func wantRecovered(t *testing.T, what, bytes string, want []impl.Sheet) {
	t.Helper()
	got, size, ok := impl.RecoverSheets(bytes)
	wantBool(t, "RecoverSheets always succeeds", ok, true)
	wantSheets(t, "RecoverSheets "+what, got, size, want, int64(len(slowSheets(want))))
}

func TestRecoverSheets(t *testing.T) {
	all := goodSheets()
	for n := range len(all) + 1 { // no sheets, MaxSheets and more
		bytes, list := slowSheets(all[:n]), all[:min(n, 8)]
		wantRecovered(t, fmt.Sprint(n), bytes, list)
		for _, more := range []string{"x", "M", "MAT1", "\x00", "\x00\x00", slowSheet(all[0])[:17], slowSheet(all[0])[1:], " " + slowSheet(all[0])} {
			wantRecovered(t, fmt.Sprintf("%d and %q", n, more), bytes+more, list)
		}
		for _, bad := range notStored() {
			wantRecovered(t, "before bytes that are no sheet", bytes+bad+slowSheet(all[0]), list)
		}
	}
	wantRecovered(t, "equal sheets", strings.Repeat(slowSheet(all[0]), 3), []impl.Sheet{all[0], all[0], all[0]})
	wantRecovered(t, "many equal sheets", strings.Repeat(slowSheet(all[4]), 300), repeated(all[4], 8))
}

func TestRecoverBrokenSheets(t *testing.T) {
	list := goodSheets()[:6]
	bytes := slowSheets(list)
	end, whole := 0, 0
	for i := range bytes {
		if next := end + len(slowSheet(list[whole])); i == next {
			end, whole = next, whole+1
		}
		wantRecovered(t, fmt.Sprint("cut at ", i), bytes[:i], list[:whole])
		wantRecovered(t, fmt.Sprint("without ", i), bytes[:i]+bytes[i+1:], list[:whole])
		for bit := range 8 { // one sheet is broken between others
			wantRecovered(t, fmt.Sprint("broken at ", i), bytes[:i]+string([]byte{bytes[i] ^ byte(1<<bit)})+bytes[i+1:], list[:whole])
		}
	}
}
