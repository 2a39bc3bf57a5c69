package tests

import (
	"encoding/binary"
	"hash/crc32"
	"math"
	"strings"
	"testing"
	"unsafe"

	"loop.example/g00402/impl"
)

// mixed returns many bytes in which every byte value occurs and neighbours differ.
func mixed(many int) string {
	out := make([]byte, many)
	for i := range out {
		out[i] = byte(i*167 + i/256)
	}
	return string(out)
}

// edgeNums returns the integers around every length of an encoding, and both ends of the range.
func edgeNums() []int64 {
	nums := []int64{0, 1, -1, 2, -2, 300, -300, math.MaxInt64, math.MaxInt64 - 1, math.MinInt64, math.MinInt64 + 1}
	for shift := range 63 {
		power := int64(1) << shift
		nums = append(nums, power-1, power, power+1, -power-1, -power, -power+1)
	}
	return nums
}

func wantNum(t *testing.T, text string, at int64, want impl.NumOut) {
	t.Helper()
	if got := impl.GetNum(text, at); got != want {
		t.Errorf("GetNum(%.40q, %d) = %+v, want %+v", text, at, got, want)
	}
}

func wantText(t *testing.T, text string, at int64, want impl.TextOut) {
	t.Helper()
	if got := impl.GetText(text, at); got != want {
		t.Errorf("GetText(%.40q, %d) is %.40q, %d, %d, want %.40q, %d, %d",
			text, at, got.Text, got.At, got.Code, want.Text, want.At, want.Code)
	}
}

func wantUnseal(t *testing.T, text string, want impl.TextOut) {
	t.Helper()
	if got := impl.Unseal(text); got != want {
		t.Errorf("Unseal(%.40q) is %.40q, %d, %d, want %.40q, %d, %d",
			text, got.Text, got.At, got.Code, want.Text, want.At, want.Code)
	}
}

func shareMemory(a string, b string) bool {
	first := uintptr(unsafe.Pointer(unsafe.StringData(a)))
	second := uintptr(unsafe.Pointer(unsafe.StringData(b)))
	return first < second+uintptr(len(b)) && second < first+uintptr(len(a))
}

func TestConstants(t *testing.T) {
	got := []int64{
		impl.OK, impl.ErrForm, impl.ErrSize, impl.ErrSyntax, impl.ErrShort, impl.ErrSum, impl.ErrNone,
		impl.ErrThere, impl.ErrRange, impl.ErrFull, impl.ErrState, impl.ErrDenied, impl.ErrSchema,
	}
	for i, code := range got {
		if code != int64(i) {
			t.Errorf("code %d is %d", i, code)
		}
	}
	if impl.MaxBytes != 8000 || impl.MaxList != 400 || impl.MaxTime != 1000000 {
		t.Errorf("limits are %d, %d, %d", impl.MaxBytes, impl.MaxList, impl.MaxTime)
	}
}

func TestPutNumBytes(t *testing.T) {
	for _, c := range []struct {
		n    int64
		want string
	}{
		{0, "\x00"},
		{-1, "\x01"},
		{1, "\x02"},
		{63, "\x7e"},
		{-64, "\x7f"},
		{64, "\x80\x01"},
		{-65, "\x81\x01"},
		{8191, "\xfe\x7f"},
		{8192, "\x80\x80\x01"},
		{math.MaxInt64, "\xfe\xff\xff\xff\xff\xff\xff\xff\xff\x01"},
		{math.MinInt64, "\xff\xff\xff\xff\xff\xff\xff\xff\xff\x01"},
	} {
		if got := impl.PutNum(c.n); got != c.want {
			t.Errorf("PutNum(%d) = %x, want %x", c.n, got, c.want)
		}
	}
}

func TestNumIsDecodedFromItsEncoding(t *testing.T) {
	lengths := map[int]int{}
	for _, n := range edgeNums() {
		text := impl.PutNum(n)
		lengths[len(text)]++
		if want := string(binary.AppendVarint(nil, n)); text != want {
			t.Errorf("PutNum(%d) = %x, want %x", n, text, want)
		}
		end := int64(len(text))
		wantNum(t, text, 0, impl.NumOut{N: n, At: end})
		wantNum(t, "\xff\x80"+text+"\xff\x00", 2, impl.NumOut{N: n, At: end + 2})
		for cut := range len(text) {
			wantNum(t, text[:cut], 0, impl.NumOut{Code: impl.ErrShort})
		}
	}
	for size := 1; size <= 10; size++ {
		if lengths[size] == 0 {
			t.Errorf("no encoding of %d bytes", size)
		}
	}
}

func TestGetNumOffset(t *testing.T) {
	wantNum(t, "\x02\x04", 1, impl.NumOut{N: 2, At: 2})
	wantNum(t, "\x02", -1, impl.NumOut{Code: impl.ErrForm})
	wantNum(t, "", -1, impl.NumOut{Code: impl.ErrForm})
	wantNum(t, "\x02", math.MinInt64, impl.NumOut{Code: impl.ErrForm})
	wantNum(t, "\x80\x00", -1, impl.NumOut{Code: impl.ErrForm})
	wantNum(t, "", 0, impl.NumOut{Code: impl.ErrShort})
	wantNum(t, "\x02", 1, impl.NumOut{Code: impl.ErrShort})
	wantNum(t, "\x02", 2, impl.NumOut{Code: impl.ErrShort})
	wantNum(t, "\x02", 1<<32, impl.NumOut{Code: impl.ErrShort})
	wantNum(t, "\x02", math.MaxInt64, impl.NumOut{Code: impl.ErrShort})
}

func TestGetNumSyntax(t *testing.T) {
	nine := strings.Repeat("\x80", 9)
	full := strings.Repeat("\xff", 9)
	syntax := impl.NumOut{Code: impl.ErrSyntax}
	for _, text := range []string{
		nine + "\x02", nine + "\x7f", nine + "\x80", nine + "\x81", nine + "\xff",
		full + "\x02", full + "\x80", full + "\xff", full + "\xff\x00",
		nine + "\x80\x01",
		"\x80\x00", "\xff\x00", "\x80\x80\x00", "\x81\x80\x00\x05", nine + "\x00", full + "\x00",
	} {
		wantNum(t, text, 0, syntax)
		wantNum(t, "\x00"+text, 1, syntax)
	}
	for size := 1; size <= 9; size++ {
		wantNum(t, strings.Repeat("\x80", size)+"\x00", 0, syntax)
		wantNum(t, strings.Repeat("\x80", size), 0, impl.NumOut{Code: impl.ErrShort})
	}
	wantNum(t, nine+"\x01", 0, impl.NumOut{N: 1 << 62, At: 10})
	wantNum(t, "\x00\x00", 0, impl.NumOut{N: 0, At: 1})
}

func TestGetNumSize(t *testing.T) {
	text := strings.Repeat("\x02", impl.MaxBytes)
	wantNum(t, text, 0, impl.NumOut{N: 1, At: 1})
	wantNum(t, text, impl.MaxBytes-1, impl.NumOut{N: 1, At: impl.MaxBytes})
	wantNum(t, text, impl.MaxBytes, impl.NumOut{Code: impl.ErrShort})
	wantNum(t, text+"\x02", 0, impl.NumOut{Code: impl.ErrSize})
	wantNum(t, text+"\x02", -1, impl.NumOut{Code: impl.ErrSize})
	wantNum(t, text+"\x02", impl.MaxBytes+1, impl.NumOut{Code: impl.ErrSize})
}

func TestPutTextBytes(t *testing.T) {
	for _, size := range []int{0, 1, 2, 63, 64, 8000 - 4, 8000} {
		text := mixed(size)
		want := string(binary.AppendVarint(nil, int64(size))) + text
		if got := impl.PutText(text); got != want {
			t.Errorf("PutText of %d bytes is %.20q, want %.20q", size, got, want)
		}
	}
	for _, size := range []int{8001, 8002, 20000} {
		if got := impl.PutText(mixed(size)); got != "" {
			t.Errorf("PutText of %d bytes is %.20q", size, got)
		}
	}
}

func TestTextIsDecodedFromItsEncoding(t *testing.T) {
	for _, size := range []int{0, 1, 2, 63, 64, 100, 5000, impl.MaxBytes - 4, impl.MaxBytes - 2} {
		text := mixed(size)
		code := impl.PutText(text)
		end := int64(len(code))
		wantText(t, code, 0, impl.TextOut{Text: text, At: end})
		wantText(t, code[:end-1], 0, impl.TextOut{Code: impl.ErrShort})
		if size <= 5000 {
			wantText(t, "\xff\x80"+code+"\xff", 2, impl.TextOut{Text: text, At: end + 2})
		}
	}
	// Their encodings, of 8001 and 8002 bytes, are beyond the limit of an argument.
	for _, size := range []int{impl.MaxBytes - 1, impl.MaxBytes} {
		wantText(t, impl.PutText(mixed(size)), 0, impl.TextOut{Code: impl.ErrSize})
	}
}

func TestGetTextErrors(t *testing.T) {
	wantText(t, "x\x04ab", 1, impl.TextOut{Text: "ab", At: 4})
	wantText(t, "\x04ab", -1, impl.TextOut{Code: impl.ErrForm})
	wantText(t, "", -1, impl.TextOut{Code: impl.ErrForm})
	wantText(t, "\x04ab", math.MinInt64, impl.TextOut{Code: impl.ErrForm})
	wantText(t, "", 0, impl.TextOut{Code: impl.ErrShort})
	wantText(t, "\x04ab", 3, impl.TextOut{Code: impl.ErrShort})
	wantText(t, "\x04ab", 4, impl.TextOut{Code: impl.ErrShort})
	wantText(t, "\x04ab", math.MaxInt64, impl.TextOut{Code: impl.ErrShort})
	wantText(t, "\x80", 0, impl.TextOut{Code: impl.ErrShort})
	wantText(t, "\x84\x00ab", 0, impl.TextOut{Code: impl.ErrSyntax})
	wantText(t, strings.Repeat("\x80", 9)+"\x02", 0, impl.TextOut{Code: impl.ErrSyntax})
	wantText(t, "\x04a", 0, impl.TextOut{Code: impl.ErrShort})
	wantText(t, "\x04", 0, impl.TextOut{Code: impl.ErrShort})
	wantText(t, "\x00", 0, impl.TextOut{Text: "", At: 1})
}

func TestGetTextLength(t *testing.T) {
	for _, size := range []int64{-1, -2, -8000, 8001, 8002, 1 << 40, math.MaxInt64, math.MinInt64} {
		wantText(t, impl.PutNum(size)+"ab", 0, impl.TextOut{Code: impl.ErrSyntax})
		wantText(t, impl.PutNum(size), 0, impl.TextOut{Code: impl.ErrSyntax})
	}
	for _, size := range []int64{3, 7999, 8000} {
		wantText(t, impl.PutNum(size)+"ab", 0, impl.TextOut{Code: impl.ErrShort})
	}
	full := impl.PutNum(2) + mixed(impl.MaxBytes-1)
	wantText(t, full, 0, impl.TextOut{Text: mixed(2), At: 3})
	wantText(t, full+"a", 0, impl.TextOut{Code: impl.ErrSize})
	wantText(t, full+"a", -1, impl.TextOut{Code: impl.ErrSize})
}

func TestNameRightLengths(t *testing.T) {
	for size := range 30 {
		want := size >= 1 && size <= 20
		if got := impl.NameRight(strings.Repeat("z", size)); got != want {
			t.Errorf("NameRight of %d letters is %t", size, got)
		}
	}
	if impl.NameRight(strings.Repeat("a", impl.MaxBytes+1)) {
		t.Error("a string beyond the size limit is a name")
	}
}

func TestNameRightBytes(t *testing.T) {
	letters := "abcdefghijklmnopqrstuvwxyz"
	for b := range 256 {
		text := string([]byte{byte(b)})
		first := strings.Contains(letters, text)
		other := strings.Contains(letters+"0123456789_", text)
		if got := impl.NameRight(text); got != first {
			t.Errorf("NameRight(%q) = %t", text, got)
		}
		if got := impl.NameRight(text + "a"); got != first {
			t.Errorf("NameRight(%q) = %t", text+"a", got)
		}
		if got := impl.NameRight("a" + text + "a"); got != other {
			t.Errorf("NameRight(%q) = %t", "a"+text+"a", got)
		}
		if got := impl.NameRight("a" + text); got != other {
			t.Errorf("NameRight(%q) = %t", "a"+text, got)
		}
	}
	if !impl.NameRight("a_9") || impl.NameRight("_a") {
		t.Error("the examples of the document fail")
	}
}

func TestCrcValues(t *testing.T) {
	if got := impl.Crc("123456789"); got != 3421780262 {
		t.Errorf("Crc of the digits is %d", got)
	}
	if got := impl.Crc(""); got != 0 {
		t.Errorf("Crc of the empty string is %d", got)
	}
	for b := range 256 {
		text := string([]byte{byte(b)})
		if got, want := impl.Crc(text), int64(crc32.ChecksumIEEE([]byte(text))); got != want {
			t.Errorf("Crc(%q) = %d, want %d", text, got, want)
		}
	}
	for _, size := range []int{2, 3, 4, 5, 300, 8000 - 4, 8000 - 1, 8000} {
		text := mixed(size)
		if got, want := impl.Crc(text), int64(crc32.ChecksumIEEE([]byte(text))); got != want {
			t.Errorf("Crc of %d bytes is %d, want %d", size, got, want)
		}
	}
	for _, size := range []int{8001, 8002, 20000} {
		if got := impl.Crc(mixed(size)); got != 0 {
			t.Errorf("Crc of %d bytes is %d", size, got)
		}
	}
}

func TestCrcIsContinued(t *testing.T) {
	text := mixed(300)
	for cut := 0; cut <= len(text); cut++ {
		if got, want := impl.CrcMore(impl.Crc(text[:cut]), text[cut:]), impl.Crc(text); got != want {
			t.Errorf("CrcMore at %d is %d, want %d", cut, got, want)
		}
	}
	long := mixed(impl.MaxBytes)
	want := int64(crc32.ChecksumIEEE([]byte(long + long)))
	if got := impl.CrcMore(impl.Crc(long), long); got != want {
		t.Errorf("CrcMore of two strings of the greatest length is %d, want %d", got, want)
	}
}

func TestCrcMoreRange(t *testing.T) {
	for _, crc := range []int64{0, 1, 1 << 31, 1<<31 - 1, 1<<32 - 2, 1<<32 - 1} {
		if got := impl.CrcMore(crc, ""); got != crc {
			t.Errorf("CrcMore(%d, \"\") = %d", crc, got)
		}
		want := int64(crc32.Update(uint32(crc), crc32.IEEETable, []byte("ab")))
		if got := impl.CrcMore(crc, "ab"); got != want {
			t.Errorf("CrcMore(%d, \"ab\") = %d, want %d", crc, got, want)
		}
		if got := impl.CrcMore(crc, mixed(impl.MaxBytes+1)); got != 0 {
			t.Errorf("CrcMore(%d) of %d bytes is %d", crc, impl.MaxBytes+1, got)
		}
	}
	for _, crc := range []int64{-1, -2, math.MinInt64, 1 << 32, 1<<32 + 1, 1 << 40, math.MaxInt64} {
		for _, text := range []string{"", "ab"} {
			if got := impl.CrcMore(crc, text); got != 0 {
				t.Errorf("CrcMore(%d, %q) = %d", crc, text, got)
			}
		}
	}
}

func TestSealBytes(t *testing.T) {
	if got, want := impl.Seal("123456789"), "123456789\x26\x39\xf4\xcb"; got != want {
		t.Errorf("Seal of the digits is %x, want %x", got, want)
	}
	if got, want := impl.Seal(""), "\x00\x00\x00\x00"; got != want {
		t.Errorf("Seal of the empty string is %x, want %x", got, want)
	}
	for _, size := range []int{impl.MaxBytes - 3, impl.MaxBytes, impl.MaxBytes + 1, 20000} {
		if got := impl.Seal(mixed(size)); got != "" {
			t.Errorf("Seal of %d bytes has %d bytes", size, len(got))
		}
	}
}

func TestSealedStringIsRecovered(t *testing.T) {
	for _, size := range []int{0, 1, 3, 4, 5, 300, impl.MaxBytes - 5, impl.MaxBytes - 4} {
		text := mixed(size)
		sealed := impl.Seal(text)
		want := string(binary.LittleEndian.AppendUint32([]byte(text), crc32.ChecksumIEEE([]byte(text))))
		if sealed != want {
			t.Errorf("Seal of %d bytes ends with %x", size, sealed[max(0, len(sealed)-4):])
		}
		wantUnseal(t, sealed, impl.TextOut{Text: text})
	}
}

func TestChangedByteIsRejected(t *testing.T) {
	for _, text := range []string{"", "a", "123456789", mixed(40)} {
		sealed := impl.Seal(text)
		for i := range len(sealed) {
			for change := 1; change < 256; change++ {
				broken := []byte(sealed)
				broken[i] ^= byte(change)
				wantUnseal(t, string(broken), impl.TextOut{Code: impl.ErrSum})
			}
		}
	}
	long := impl.Seal(mixed(impl.MaxBytes - 4))
	for _, i := range []int{0, 1, 4000, 7995, 7996, 7999} {
		broken := []byte(long)
		broken[i] ^= 1
		wantUnseal(t, string(broken), impl.TextOut{Code: impl.ErrSum})
	}
}

func TestUnsealErrors(t *testing.T) {
	for _, text := range []string{"", "\x00", "\x00\x00", "\x00\x00\x00", "abc"} {
		wantUnseal(t, text, impl.TextOut{Code: impl.ErrShort})
	}
	wantUnseal(t, "\x00\x00\x00\x00", impl.TextOut{})
	wantUnseal(t, "abcd", impl.TextOut{Code: impl.ErrSum})
	wantUnseal(t, "\xcb\xf4\x39\x26", impl.TextOut{Code: impl.ErrSum})
	wantUnseal(t, "123456789\xcb\xf4\x39\x26", impl.TextOut{Code: impl.ErrSum})
	wantUnseal(t, mixed(impl.MaxBytes), impl.TextOut{Code: impl.ErrSum})
	text := []byte(mixed(impl.MaxBytes - 3))
	tooLong := string(binary.LittleEndian.AppendUint32(text, crc32.ChecksumIEEE(text)))
	wantUnseal(t, tooLong, impl.TextOut{Code: impl.ErrSize})
}

func TestResultsShareNoMemory(t *testing.T) {
	text := mixed(50)
	coded := impl.PutText(text)
	sealed := impl.Seal(text)
	for _, pair := range [][2]string{
		{text, coded},
		{text, sealed},
		{coded, impl.GetText(coded, 0).Text},
		{sealed, impl.Unseal(sealed).Text},
	} {
		if shareMemory(pair[0], pair[1]) {
			t.Errorf("%q shares memory with %q", pair[0], pair[1])
		}
	}
}
