package tests

import (
	"encoding/binary"
	"hash/crc32"
	"math"
	"strings"
	"testing"

	"loop.example/g00387/impl"
)

// numbers returns the integers around every power of two and its negative, the least and the greatest integer among them.
func numbers() []int64 {
	list := []int64{0, math.MinInt64, math.MaxInt64}
	for shift := range 63 {
		power := int64(1) << shift
		for _, near := range []int64{power - 1, power, power + 1} {
			list = append(list, near, -near, math.MinInt64+near)
		}
	}
	return list
}

func long(size int) string {
	return strings.Repeat("x", size)
}

func checkNum(t *testing.T, text string, at int64, want impl.NumOut) {
	t.Helper()
	if got := impl.GetNum(text, at); got != want {
		t.Errorf("GetNum(%.40q, %d) = %+v, want %+v", text, at, got, want)
	}
}

func checkText(t *testing.T, text string, at int64, want impl.TextOut) {
	t.Helper()
	if got := impl.GetText(text, at); got != want {
		t.Errorf("GetText(%.40q, %d): text of %d bytes, At %d, Code %d, want %d bytes, At %d, Code %d",
			text, at, len(got.Text), got.At, got.Code, len(want.Text), want.At, want.Code)
	}
}

func checkUnseal(t *testing.T, text string, want impl.TextOut) {
	t.Helper()
	if got := impl.Unseal(text); got != want {
		t.Errorf("Unseal(%.40q): text of %d bytes, At %d, Code %d, want %d bytes, At %d, Code %d",
			text, len(got.Text), got.At, got.Code, len(want.Text), want.At, want.Code)
	}
}

func TestConstants(t *testing.T) {
	got := []int64{impl.OK, impl.ErrForm, impl.ErrSize, impl.ErrSyntax, impl.ErrShort, impl.ErrSum, impl.ErrNone,
		impl.ErrThere, impl.ErrRange, impl.ErrFull, impl.ErrState, impl.ErrClosed}
	for code, value := range got {
		if value != int64(code) {
			t.Errorf("error code number %d is %d", code, value)
		}
	}
	if impl.MaxBytes != 20000 || impl.MaxList != 400 || impl.MaxTime != 1000000000 {
		t.Errorf("limits are %d, %d, %d", impl.MaxBytes, impl.MaxList, impl.MaxTime)
	}
}

func TestPutNumBytes(t *testing.T) {
	cases := []struct {
		n    int64
		want string
	}{
		{0, "\x00"},
		{-1, "\x01"},
		{1, "\x02"},
		{63, "\x7e"},
		{-64, "\x7f"},
		{64, "\x80\x01"},
		{-65, "\x81\x01"},
		{8191, "\xfe\x7f"},
		{-8192, "\xff\x7f"},
		{8192, "\x80\x80\x01"},
		{math.MaxInt64, "\xfe" + strings.Repeat("\xff", 8) + "\x01"},
		{math.MinInt64, strings.Repeat("\xff", 9) + "\x01"},
	}
	for _, c := range cases {
		if got := impl.PutNum(c.n); got != c.want {
			t.Errorf("PutNum(%d) = % x, want % x", c.n, got, c.want)
		}
	}
	for _, n := range numbers() {
		want := string(binary.AppendVarint(nil, n))
		if got := impl.PutNum(n); got != want {
			t.Errorf("PutNum(%d) = % x, want % x", n, got, want)
		}
	}
}

// Promise 1, integers.
func TestNumbersAreDecoded(t *testing.T) {
	for _, n := range numbers() {
		code := impl.PutNum(n)
		size := int64(len(code))
		checkNum(t, code, 0, impl.NumOut{N: n, At: size})
		checkNum(t, "\x80\x80"+code+"\x80\x00", 2, impl.NumOut{N: n, At: 2 + size})
	}
}

func TestCutOffNumberIsShort(t *testing.T) {
	for _, n := range numbers() {
		code := impl.PutNum(n)
		for cut := range len(code) {
			checkNum(t, code[:cut], 0, impl.NumOut{Code: impl.ErrShort})
			checkNum(t, "x"+code[:cut], 1, impl.NumOut{Code: impl.ErrShort})
		}
	}
}

func TestGetNumTenthByte(t *testing.T) {
	nine := strings.Repeat("\x80", 9)
	checkNum(t, nine, 0, impl.NumOut{Code: impl.ErrShort})
	checkNum(t, nine+"\x00", 0, impl.NumOut{Code: impl.ErrSyntax})
	checkNum(t, nine+"\x01", 0, impl.NumOut{N: 1 << 62, At: 10})
	checkNum(t, strings.Repeat("\xff", 9)+"\x01", 0, impl.NumOut{N: math.MinInt64, At: 10})
	for tenth := 2; tenth < 256; tenth++ {
		last := string([]byte{byte(tenth)})
		checkNum(t, nine+last, 0, impl.NumOut{Code: impl.ErrSyntax})
		checkNum(t, nine+last+"\x00", 0, impl.NumOut{Code: impl.ErrSyntax})
	}
}

func TestGetNumLongerThanNecessary(t *testing.T) {
	for more := 1; more <= 9; more++ {
		checkNum(t, strings.Repeat("\x80", more)+"\x00", 0, impl.NumOut{Code: impl.ErrSyntax})
		checkNum(t, strings.Repeat("\xff", more)+"\x00", 0, impl.NumOut{Code: impl.ErrSyntax})
	}
	checkNum(t, "\x00", 0, impl.NumOut{At: 1})
	checkNum(t, "\x80\x00", 1, impl.NumOut{At: 2})
}

func TestGetNumOffsets(t *testing.T) {
	for _, at := range []int64{-1, -2, math.MinInt64} {
		checkNum(t, "\x02", at, impl.NumOut{Code: impl.ErrForm})
		checkNum(t, "", at, impl.NumOut{Code: impl.ErrForm})
	}
	for _, at := range []int64{1, 2, 1 << 32, math.MaxInt64} {
		checkNum(t, "\x02", at, impl.NumOut{Code: impl.ErrShort})
	}
	checkNum(t, "", 0, impl.NumOut{Code: impl.ErrShort})
}

func TestGetNumSize(t *testing.T) {
	most := long(impl.MaxBytes-1) + "\x02"
	checkNum(t, most, impl.MaxBytes-1, impl.NumOut{N: 1, At: impl.MaxBytes})
	checkNum(t, most, impl.MaxBytes, impl.NumOut{Code: impl.ErrShort})
	for _, at := range []int64{0, -1, impl.MaxBytes, math.MaxInt64} {
		checkNum(t, "\x02"+most, at, impl.NumOut{Code: impl.ErrSize})
	}
}

func TestPutTextBytes(t *testing.T) {
	cases := []struct{ text, want string }{
		{"", "\x00"},
		{"ab", "\x04ab"},
		{"\x00\xff", "\x04\x00\xff"},
		{long(63), "\x7e" + long(63)},
		{long(64), "\x80\x01" + long(64)},
		{long(impl.MaxBytes), impl.PutNum(impl.MaxBytes) + long(impl.MaxBytes)},
		{long(impl.MaxBytes + 1), ""},
	}
	for _, c := range cases {
		if got := impl.PutText(c.text); got != c.want {
			t.Errorf("PutText of %d bytes has %d bytes, want %d", len(c.text), len(got), len(c.want))
		}
	}
}

// Promise 1, strings. An encoding is itself a string of at most MaxBytes bytes when it is decoded.
func TestTextsAreDecoded(t *testing.T) {
	every := make([]byte, 256)
	for i := range every {
		every[i] = byte(i)
	}
	texts := []string{"", "a", "ab", "\x00", "\x80\x80", "é", string(every), long(63), long(64), long(8191), long(8192), long(impl.MaxBytes - 3)}
	for _, text := range texts {
		code := impl.PutText(text)
		checkText(t, code, 0, impl.TextOut{Text: text, At: int64(len(code))})
	}
	for _, text := range texts[:len(texts)-1] {
		code := impl.PutText(text)
		checkText(t, "\x80\x80"+code+"\x80", 2, impl.TextOut{Text: text, At: 2 + int64(len(code))})
	}
	checkText(t, "x\x04ab", 1, impl.TextOut{Text: "ab", At: 4})
}

func TestTextsFollowEachOther(t *testing.T) {
	code := impl.PutText("one") + impl.PutText("") + impl.PutNum(-7) + impl.PutText("two")
	one := impl.GetText(code, 0)
	empty := impl.GetText(code, one.At)
	number := impl.GetNum(code, empty.At)
	two := impl.GetText(code, number.At)
	if one.Text != "one" || empty.Text != "" || number.N != -7 || two.Text != "two" {
		t.Errorf("decoded %+v, %+v, %+v, %+v", one, empty, number, two)
	}
	if two.At != int64(len(code)) || two.Code != impl.OK {
		t.Errorf("ends with %+v, want At %d", two, len(code))
	}
}

func TestCutOffTextIsShort(t *testing.T) {
	for _, text := range []string{"", "a", "ab", long(64), long(300)} {
		code := impl.PutText(text)
		for cut := range len(code) {
			checkText(t, code[:cut], 0, impl.TextOut{Code: impl.ErrShort})
		}
	}
}

func TestGetTextErrors(t *testing.T) {
	nine := strings.Repeat("\x80", 9)
	cases := []struct {
		text string
		at   int64
		code int64
	}{
		{"\x04ab", -1, impl.ErrForm},
		{"", -1, impl.ErrForm},
		{"\x04ab", math.MinInt64, impl.ErrForm},
		{"", 0, impl.ErrShort},
		{"\x04ab", 3, impl.ErrShort},
		{"\x04ab", 4, impl.ErrShort},
		{"\x04ab", math.MaxInt64, impl.ErrShort},
		{"\x80", 0, impl.ErrShort},
		{"\x84\x00ab", 0, impl.ErrSyntax},
		{nine + "\x02", 0, impl.ErrSyntax},
		{nine + "\x00", 0, impl.ErrSyntax},
		{impl.PutNum(-1) + "ab", 0, impl.ErrSyntax},
		{impl.PutNum(math.MinInt64) + "ab", 0, impl.ErrSyntax},
		{impl.PutNum(math.MaxInt64) + "ab", 0, impl.ErrSyntax},
		{impl.PutNum(impl.MaxBytes+1) + "ab", 0, impl.ErrSyntax},
		{impl.PutNum(impl.MaxBytes) + "ab", 0, impl.ErrShort},
		{impl.PutNum(3) + "ab", 0, impl.ErrShort},
	}
	for _, c := range cases {
		checkText(t, c.text, c.at, impl.TextOut{Code: c.code})
	}
}

func TestGetTextSize(t *testing.T) {
	most := long(impl.MaxBytes-3) + "\x04ab"
	checkText(t, most, impl.MaxBytes-3, impl.TextOut{Text: "ab", At: impl.MaxBytes})
	for _, at := range []int64{0, -1, impl.MaxBytes - 2, math.MaxInt64} {
		checkText(t, "x"+most, at, impl.TextOut{Code: impl.ErrSize})
	}
	checkText(t, impl.PutText(long(impl.MaxBytes-2)), 0, impl.TextOut{Code: impl.ErrSize})
	checkText(t, impl.PutText(long(impl.MaxBytes)), 0, impl.TextOut{Code: impl.ErrSize})
}

func TestNames(t *testing.T) {
	cases := []struct {
		name string
		want bool
	}{
		{"a_9", true},
		{"a", true},
		{"z", true},
		{"z0", true},
		{"a__", true},
		{strings.Repeat("a", 20), true},
		{strings.Repeat("a", 21), false},
		{"", false},
		{"_a", false},
		{"9a", false},
		{"A", false},
		{"aB", false},
		{"a b", false},
		{"a-b", false},
		{"a.b", false},
		{"a\x00", false},
		{"é", false},
		{"aé", false},
		{strings.Repeat("a", impl.MaxBytes+1), false},
	}
	for _, c := range cases {
		if got := impl.NameRight(c.name); got != c.want {
			t.Errorf("NameRight(%.40q) = %v, want %v", c.name, got, c.want)
		}
	}
}

func TestBytesOfNames(t *testing.T) {
	const letters = "abcdefghijklmnopqrstuvwxyz"
	for b := range 256 {
		one := string([]byte{byte(b)})
		if got, want := impl.NameRight(one), strings.Contains(letters, one); got != want {
			t.Errorf("NameRight(%q) = %v, want %v", one, got, want)
		}
		want := strings.Contains(letters+"0123456789_", one)
		for _, name := range []string{"a" + one, "a" + one + "a", strings.Repeat("a", 19) + one} {
			if got := impl.NameRight(name); got != want {
				t.Errorf("NameRight(%q) = %v, want %v", name, got, want)
			}
		}
	}
}

func TestCrcValues(t *testing.T) {
	if got := impl.Crc("123456789"); got != 3421780262 {
		t.Errorf("Crc of the example is %d", got)
	}
	if got := impl.Crc(""); got != 0 {
		t.Errorf("Crc of the empty string is %d", got)
	}
	for _, text := range []string{"a", "\x00", "\xff\xff\xff\xff", "\x80é", long(1000), long(impl.MaxBytes)} {
		if got, want := impl.Crc(text), int64(crc32.ChecksumIEEE([]byte(text))); got != want {
			t.Errorf("Crc(%.20q) = %d, want %d", text, got, want)
		}
	}
	for b := range 256 {
		text := string([]byte{byte(b)})
		if got, want := impl.Crc(text), int64(crc32.ChecksumIEEE([]byte(text))); got != want {
			t.Errorf("Crc(%q) = %d, want %d", text, got, want)
		}
	}
	if got := impl.Crc(long(impl.MaxBytes + 1)); got != 0 {
		t.Errorf("Crc of a string that is too long is %d", got)
	}
}

// Promise 2, the CRC.
func TestCrcIsContinued(t *testing.T) {
	for _, text := range []string{"", "a", "123456789", "\x00\x00\xff\x80", long(200), "</stream>\n"} {
		for cut := range len(text) + 1 {
			if got, want := impl.CrcMore(impl.Crc(text[:cut]), text[cut:]), impl.Crc(text); got != want {
				t.Errorf("%.20q cut at %d has CRC %d, want %d", text, cut, got, want)
			}
		}
	}
	half := impl.MaxBytes / 2
	whole := long(half) + strings.Repeat("y", half)
	if got, want := impl.CrcMore(impl.Crc(whole[:half]), whole[half:]), impl.Crc(whole); got != want {
		t.Errorf("the longest string in two halves has CRC %d, want %d", got, want)
	}
}

// The concatenation may be longer than MaxBytes: only the part that is given is limited.
func TestCrcIsContinuedBeyondTheLimit(t *testing.T) {
	most := long(impl.MaxBytes)
	want := int64(crc32.ChecksumIEEE([]byte(most + most)))
	if got := impl.CrcMore(impl.Crc(most), most); got != want {
		t.Errorf("CRC of twice the longest string is %d, want %d", got, want)
	}
}

func TestCrcMoreLimits(t *testing.T) {
	const greatest = 1<<32 - 1
	for _, crc := range []int64{-1, math.MinInt64, greatest + 1, math.MaxInt64} {
		for _, text := range []string{"", "a", "123456789"} {
			if got := impl.CrcMore(crc, text); got != 0 {
				t.Errorf("CrcMore(%d, %q) = %d, want 0", crc, text, got)
			}
		}
	}
	for _, crc := range []int64{0, 1, 3421780262, greatest} {
		if got := impl.CrcMore(crc, ""); got != crc {
			t.Errorf("CrcMore(%d, \"\") = %d", crc, got)
		}
		want := int64(crc32.Update(uint32(crc), crc32.IEEETable, []byte("ab")))
		if got := impl.CrcMore(crc, "ab"); got != want {
			t.Errorf("CrcMore(%d, \"ab\") = %d, want %d", crc, got, want)
		}
		if got := impl.CrcMore(crc, long(impl.MaxBytes+1)); got != 0 {
			t.Errorf("CrcMore(%d, a string that is too long) = %d, want 0", crc, got)
		}
	}
}

func TestSealBytes(t *testing.T) {
	if got, want := impl.Seal("123456789"), "123456789\x26\x39\xf4\xcb"; got != want {
		t.Errorf("Seal of the example is % x, want % x", got, want)
	}
	if got, want := impl.Seal(""), "\x00\x00\x00\x00"; got != want {
		t.Errorf("Seal of the empty string is % x", got)
	}
	most := long(impl.MaxBytes - 4)
	sum := binary.LittleEndian.AppendUint32(nil, crc32.ChecksumIEEE([]byte(most)))
	if got := impl.Seal(most); got != most+string(sum) {
		t.Errorf("Seal of the longest string has %d bytes, or a wrong CRC", len(got))
	}
	for _, size := range []int{impl.MaxBytes - 3, impl.MaxBytes, impl.MaxBytes + 1} {
		if got := impl.Seal(long(size)); got != "" {
			t.Errorf("Seal of %d bytes has %d bytes, want none", size, len(got))
		}
	}
}

// Promise 2, sealed strings are recovered.
func TestSealedStringIsRecovered(t *testing.T) {
	for _, text := range []string{"", "a", "ab", "123456789", "\x00\x00\x00\x00", "é\xff", long(1000), long(impl.MaxBytes - 4)} {
		checkUnseal(t, impl.Seal(text), impl.TextOut{Text: text})
	}
	checkUnseal(t, impl.Seal(impl.Seal("ab")), impl.TextOut{Text: impl.Seal("ab")})
}

// Promise 2, a change of one byte is rejected, in the string and in its CRC.
func TestChangedSealIsRejected(t *testing.T) {
	for _, text := range []string{"", "a", "123456789", "\x00\x00\x00\x00", long(40)} {
		sealed := impl.Seal(text)
		for at := range len(sealed) {
			for change := 1; change < 256; change++ {
				changed := []byte(sealed)
				changed[at] ^= byte(change)
				checkUnseal(t, string(changed), impl.TextOut{Code: impl.ErrSum})
			}
		}
	}
	changed := []byte(impl.Seal(long(impl.MaxBytes - 4)))
	for _, at := range []int{0, 9999, impl.MaxBytes - 5, impl.MaxBytes - 4, impl.MaxBytes - 1} {
		changed[at] ^= 1
		checkUnseal(t, string(changed), impl.TextOut{Code: impl.ErrSum})
		changed[at] ^= 1
	}
}

func TestUnsealErrors(t *testing.T) {
	for size := range 4 {
		checkUnseal(t, strings.Repeat("\x00", size), impl.TextOut{Code: impl.ErrShort})
	}
	checkUnseal(t, "\x00\x00\x00\x00", impl.TextOut{})
	checkUnseal(t, "123456789\xcb\xf4\x39\x26", impl.TextOut{Code: impl.ErrSum})
	checkUnseal(t, long(impl.MaxBytes), impl.TextOut{Code: impl.ErrSum})
	checkUnseal(t, long(impl.MaxBytes+1), impl.TextOut{Code: impl.ErrSize})
	text := long(impl.MaxBytes - 3)
	sum := binary.LittleEndian.AppendUint32(nil, crc32.ChecksumIEEE([]byte(text)))
	checkUnseal(t, text+string(sum), impl.TextOut{Code: impl.ErrSize})
}
