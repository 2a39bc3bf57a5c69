package tests

import (
	"encoding/asn1"
	"encoding/binary"
	"math"
	"slices"
	"strconv"
	"strings"
	"testing"

	"loop.example/g00402/impl"
)

// tagBytes returns all tags.
func tagBytes() []int64 {
	var all []int64
	for tag := range int64(256) {
		if tag%32 != 31 {
			all = append(all, tag)
		}
	}
	return all
}

func noTags() []int64 {
	all := []int64{-1, -2, -32, -128, -225, -256, 256, 257, 256 + 48, 1 << 16, 1<<32 + 4, 1 << 62, math.MaxInt64, math.MinInt64, math.MinInt64 + 4}
	for tag := int64(31); tag < 256; tag += 32 {
		all = append(all, tag)
	}
	return all
}

// bodySizes returns the sizes on both sides of every bound of a length that has a form.
func bodySizes() []int {
	return []int{0, 1, 2, 3, 30, 31, 32, 126, 127, 128, 129, 130, 131, 200, 254, 255, 256, 257, 511, 512, 3839, 3840, 3998, 3999, 4000}
}

// tlvBytes is the rule for an element, by the size of its body.
func tlvBytes(tag int64, body string) string {
	size := len(body)
	switch {
	case size <= 127:
		return string([]byte{byte(tag), byte(size)}) + body
	case size <= 255:
		return string([]byte{byte(tag), 129, byte(size)}) + body
	}
	return string([]byte{byte(tag), 130, byte(size / 256), byte(size % 256)}) + body
}

// tlvRule is the rule for BerGet of a whole text: the errors in the order of the bytes at which they are seen.
func tlvRule(text string) impl.TlvOut {
	short, syntax := impl.TlvOut{Code: impl.ErrShort}, impl.TlvOut{Code: impl.ErrSyntax}
	many := len(text)
	if many == 0 {
		return short
	}
	if text[0]%32 == 31 {
		return syntax
	}
	if many == 1 {
		return short
	}
	head, size := 2, int(text[1])
	if text[1] > 127 {
		switch text[1] {
		case 129:
			head = 3
		case 130:
			head = 4
		default:
			return syntax
		}
		if many < head {
			return short
		}
		if head == 3 {
			size = int(text[2])
		} else {
			size = int(binary.BigEndian.Uint16([]byte(text[2:4])))
		}
		if size < 128 || head == 4 && size < 256 || size > 4000 {
			return syntax
		}
	}
	if many < head+size {
		return short
	}
	return impl.TlvOut{Tlv: impl.Tlv{Tag: int64(text[0]), Body: text[head : head+size]}, At: int64(head + size)}
}

func wantGet(t *testing.T, text string, at int64, want impl.TlvOut) {
	t.Helper()
	if got := impl.BerGet(text, at); got != want {
		t.Errorf("BerGet(%.40q of %d bytes, %d) is %d, %.40q, %d, %d, want %d, %.40q, %d, %d", text, len(text), at,
			got.Tlv.Tag, got.Tlv.Body, got.At, got.Code, want.Tlv.Tag, want.Tlv.Body, want.At, want.Code)
	}
}

// toldTlvs returns the elements as texts for a message.
func toldTlvs(l []impl.Tlv) []string {
	var out []string
	for _, one := range l {
		out = append(out, strconv.FormatInt(one.Tag, 10)+" "+one.Body)
	}
	return out
}

func wantAll(t *testing.T, text string, want ...impl.Tlv) {
	t.Helper()
	if got := impl.BerAll(text); got.Code != impl.OK || !slices.Equal(got.Tlvs, want) {
		t.Errorf("BerAll(%.40q of %d bytes) is %.40q with code %d, want %.40q", text, len(text), toldTlvs(got.Tlvs), got.Code, toldTlvs(want))
	}
}

func wantAllCode(t *testing.T, text string, code int64) {
	t.Helper()
	if got := impl.BerAll(text); got.Code != code || len(got.Tlvs) > 0 {
		t.Errorf("BerAll(%.40q of %d bytes) is %.40q with code %d, want code %d", text, len(text), toldTlvs(got.Tlvs), got.Code, code)
	}
}

func wantIntRead(t *testing.T, body string, want impl.NumOut) {
	t.Helper()
	if got := impl.BerIntRead(body); got != want {
		t.Errorf("BerIntRead(%.40x of %d bytes) = %+v, want %+v", body, len(body), got, want)
	}
}

func TestChapter10Examples(t *testing.T) {
	if got := impl.BerPut(48, "ab"); got != "\x30\x02ab" {
		t.Errorf("BerPut(48, ab) = %x", got)
	}
	if got := impl.BerInt(2, 128); got != "\x02\x02\x00\x80" {
		t.Errorf("BerInt(2, 128) = %x", got)
	}
	wantGet(t, "\x04\x81\x01\x61", 0, impl.TlvOut{Code: impl.ErrSyntax})
	wantAllCode(t, "\x04\x81\x01\x61", impl.ErrSyntax)
}

func TestBerPut(t *testing.T) {
	for _, tag := range tagBytes() {
		for _, size := range bodySizes() {
			body := mixed(size)
			if got, want := impl.BerPut(tag, body), tlvBytes(tag, body); got != want {
				t.Errorf("BerPut(%d) of %d bytes is %.20x of %d bytes, want %.20x of %d bytes", tag, size, got, len(got), want, len(want))
			}
		}
	}
	for _, c := range []struct {
		size int
		want string
	}{
		{0, "\x04\x00"}, {127, "\x04\x7f"}, {128, "\x04\x81\x80"}, {255, "\x04\x81\xff"}, {256, "\x04\x82\x01\x00"}, {4000, "\x04\x82\x0f\xa0"},
	} {
		if got := impl.BerPut(4, mixed(c.size)); got != c.want+mixed(c.size) {
			t.Errorf("BerPut(4) of %d bytes is %.20x of %d bytes", c.size, got, len(got))
		}
	}
}

func TestBerPutErrors(t *testing.T) {
	for _, size := range []int{4001, 4002, 4096, 7999, 8000, 8001, 1<<16 + 5, 1 << 20} {
		for _, tag := range []int64{0, 4, 48, 254, 31, -1} {
			if got := impl.BerPut(tag, mixed(size)); got != "" {
				t.Errorf("BerPut(%d) of %d bytes is %.20x", tag, size, got)
			}
		}
	}
	for _, tag := range noTags() {
		for _, size := range []int{0, 1, 128, 256, 4000, 4001, 8001} {
			if got := impl.BerPut(tag, mixed(size)); got != "" {
				t.Errorf("BerPut(%d) of %d bytes is %.20x", tag, size, got)
			}
		}
	}
}

// followers returns what may stand behind an element, from nothing to what would be an error there.
func followers() []string {
	return []string{"", "\x00", "\x1f", "\xff", "\x04\x80", "\x04\x00", "\x30\x82\x00\x01", "\x04\x05a", mixed(300), strings.Repeat("\xff", 3990)}
}

// Promise 20.
func TestElementIsDecodedWhateverFollows(t *testing.T) {
	for _, tag := range []int64{0, 1, 2, 4, 10, 30, 32, 48, 49, 62, 96, 128, 160, 224, 254} {
		for _, size := range bodySizes() {
			body := mixed(size)
			element := impl.BerPut(tag, body)
			for _, rest := range followers() {
				want := impl.TlvOut{Tlv: impl.Tlv{Tag: tag, Body: body}, At: int64(len(element))}
				wantGet(t, element+rest, 0, want)
				want.At += 3
				wantGet(t, "\x1f\xff\x80"+element+rest, 3, want)
			}
		}
	}
}

func TestEveryTagIsDecoded(t *testing.T) {
	for _, tag := range tagBytes() {
		for _, body := range []string{"", "a", mixed(128), mixed(256)} {
			element := impl.BerPut(tag, body)
			wantGet(t, element+"\x1f", 0, impl.TlvOut{Tlv: impl.Tlv{Tag: tag, Body: body}, At: int64(len(element))})
		}
	}
	for _, tag := range noTags() {
		if tag < 0 || tag > 255 {
			continue
		}
		first := string([]byte{byte(tag)})
		for _, rest := range []string{"", "\x00", "\x01a", "\x80", "\x81", "\x81\x01", "\xff", "\x82\x10\x00", "\x05a"} {
			wantGet(t, first+rest, 0, impl.TlvOut{Code: impl.ErrSyntax})
		}
	}
}

func TestEndedElementIsShort(t *testing.T) {
	for _, size := range bodySizes() {
		element := impl.BerPut(48, mixed(size))
		cuts := []int{0, 1, 2, 3, 4, 5, len(element) / 2, len(element) - 2, len(element) - 1}
		if size <= 512 {
			for cut := range len(element) {
				cuts = append(cuts, cut)
			}
		}
		for _, cut := range cuts {
			if cut >= 0 && cut < len(element) {
				wantGet(t, element[:cut], 0, impl.TlvOut{Code: impl.ErrShort})
				wantGet(t, "ab"+element[:cut], 2, impl.TlvOut{Code: impl.ErrShort})
			}
		}
	}
}

func TestBerGetOffset(t *testing.T) {
	text := "x\x04\x01az"
	wantGet(t, text, 1, impl.TlvOut{Tlv: impl.Tlv{Tag: 4, Body: "a"}, At: 4})
	for _, at := range []int64{-1, -2, -5, math.MinInt64, math.MinInt64 + 1, -1 << 32} {
		for _, text := range []string{"", text, "\x1f", "\x04\x80", "\x04\x00", "\x04"} {
			wantGet(t, text, at, impl.TlvOut{Code: impl.ErrForm})
		}
	}
	for _, at := range []int64{5, 6, 100, impl.MaxBytes, impl.MaxBytes + 1, 1<<31 - 1, 1 << 31, 1 << 32, 1<<32 + 1, 1 << 62, math.MaxInt64 - 1, math.MaxInt64} {
		wantGet(t, text, at, impl.TlvOut{Code: impl.ErrShort})
	}
	wantGet(t, "", 0, impl.TlvOut{Code: impl.ErrShort})
	wantGet(t, "", 1, impl.TlvOut{Code: impl.ErrShort})
	wantGet(t, "\x1f", 1, impl.TlvOut{Code: impl.ErrShort})
	wantGet(t, "\x04\x00", 1, impl.TlvOut{Code: impl.ErrShort})
	wantGet(t, "\x04\x00\x00", 1, impl.TlvOut{Tlv: impl.Tlv{}, At: 3})
	wantGet(t, "\x04\x00\x1f", 2, impl.TlvOut{Code: impl.ErrSyntax})
}

func TestFirstByteOfLength(t *testing.T) {
	for first := range 256 {
		want := impl.TlvOut{Code: impl.ErrSyntax}
		switch {
		case first == 0:
			want = impl.TlvOut{Tlv: impl.Tlv{Tag: 4}, At: 2}
		case first < 128, first == 129, first == 130:
			want = impl.TlvOut{Code: impl.ErrShort}
		}
		wantGet(t, string([]byte{4, byte(first)}), 0, want)
		want = impl.TlvOut{Code: impl.ErrSyntax}
		if first < 128 {
			want = impl.TlvOut{Tlv: impl.Tlv{Tag: 4, Body: mixed(first)}, At: int64(first) + 2}
		}
		if first != 129 && first != 130 {
			wantGet(t, string([]byte{4, byte(first)})+mixed(300), 0, want)
		}
	}
}

// Every length of one and of two bytes behind the first one, with a text that ends too early or not.
func TestLengthsOfMoreBytes(t *testing.T) {
	body := mixed(4000)
	for size := range 1 << 16 {
		heads := []string{string([]byte{4, 130, byte(size >> 8), byte(size)})}
		if size < 256 {
			heads = append(heads, string([]byte{4, 129, byte(size)}))
		}
		for i, head := range heads {
			least := 256 - 128*i
			switch {
			case size < least || size > 4000:
				wantGet(t, head, 0, impl.TlvOut{Code: impl.ErrSyntax})
				wantGet(t, head+body, 0, impl.TlvOut{Code: impl.ErrSyntax})
			default:
				wantGet(t, head, 0, impl.TlvOut{Code: impl.ErrShort})
				wantGet(t, head+body[:size-1], 0, impl.TlvOut{Code: impl.ErrShort})
				wantGet(t, head+body, 0, impl.TlvOut{Tlv: impl.Tlv{Tag: 4, Body: body[:size]}, At: int64(len(head) + size)})
			}
			// Not before its last byte is there is a length wrong.
			wantGet(t, head[:len(head)-1], 0, impl.TlvOut{Code: impl.ErrShort})
		}
	}
}

// codedTexts returns all texts of up to a number of bytes, each of which matters to an element.
func codedTexts(longest int) []string {
	texts := []string{""}
	last := texts
	for range longest {
		var longer []string
		for _, text := range last {
			for _, b := range []byte{0, 1, 2, 4, 15, 16, 30, 31, 127, 128, 129, 130, 131, 160, 161, 255} {
				longer = append(longer, text+string([]byte{b}))
			}
		}
		texts = append(texts, longer...)
		last = longer
	}
	return texts
}

// A text of few bytes is followed by none, by some, or by so many that no length is too great for them.
func TestBerGetByTheRule(t *testing.T) {
	seen := make(map[int64]int)
	for _, text := range codedTexts(4) {
		for _, rest := range []string{"", mixed(128), mixed(4000)} {
			want := tlvRule(text + rest)
			seen[want.Code]++
			wantGet(t, text+rest, 0, want)
		}
	}
	for _, code := range []int64{impl.OK, impl.ErrShort, impl.ErrSyntax} {
		if seen[code] < 1000 {
			t.Errorf("code %d occurs %d times", code, seen[code])
		}
	}
}

func TestFirstOfTwoErrorsOfBerGet(t *testing.T) {
	for _, c := range []struct {
		text string
		at   int64
		code int64
	}{
		{"\x1f\x80", -1, impl.ErrForm},
		{"", -1, impl.ErrForm},
		{"\x1f", 0, impl.ErrSyntax},
		{"\xff\x81", 0, impl.ErrSyntax},
		{"\x04\x80", 0, impl.ErrSyntax},
		{"\x04\x83", 0, impl.ErrSyntax},
		{"\x04\xff", 0, impl.ErrSyntax},
		{"\x04\x81", 0, impl.ErrShort},
		{"\x04\x82", 0, impl.ErrShort},
		{"\x04\x82\x00", 0, impl.ErrShort},
		{"\x04\x82\x10", 0, impl.ErrShort},
		{"\x04\x82\xff", 0, impl.ErrShort},
		{"\x04\x81\x05", 0, impl.ErrSyntax},
		{"\x04\x81\x7f", 0, impl.ErrSyntax},
		{"\x04\x81\x80", 0, impl.ErrShort},
		{"\x04\x82\x00\xff", 0, impl.ErrSyntax},
		{"\x04\x82\x01\x00", 0, impl.ErrShort},
		{"\x04\x82\x0f\xa0", 0, impl.ErrShort},
		{"\x04\x82\x0f\xa1", 0, impl.ErrSyntax},
		{"\x04\x82\xff\xff", 0, impl.ErrSyntax},
		{"\x04\x02a", 0, impl.ErrShort},
	} {
		wantGet(t, c.text, c.at, impl.TlvOut{Code: c.code})
	}
}

func TestBerSizeLimits(t *testing.T) {
	full := impl.BerPut(4, "ab") + mixed(impl.MaxBytes-4)
	wantGet(t, full, 0, impl.TlvOut{Tlv: impl.Tlv{Tag: 4, Body: "ab"}, At: 4})
	wantGet(t, full, impl.MaxBytes, impl.TlvOut{Code: impl.ErrShort})
	last := mixed(impl.MaxBytes-4) + impl.BerPut(4, "ab")
	wantGet(t, last, impl.MaxBytes-4, impl.TlvOut{Tlv: impl.Tlv{Tag: 4, Body: "ab"}, At: impl.MaxBytes})
	for _, at := range []int64{0, 1, -1, impl.MaxBytes, impl.MaxBytes + 1, impl.MaxBytes + 2, math.MaxInt64, math.MinInt64} {
		wantGet(t, full+"\x00", at, impl.TlvOut{Code: impl.ErrSize})
		wantGet(t, strings.Repeat("\x1f", impl.MaxBytes+1), at, impl.TlvOut{Code: impl.ErrSize})
	}
	two := impl.BerPut(4, mixed(4000)) + impl.BerPut(48, mixed(3992))
	if len(two) != impl.MaxBytes {
		t.Fatalf("the text has %d bytes", len(two))
	}
	wantAll(t, two, impl.Tlv{Tag: 4, Body: mixed(4000)}, impl.Tlv{Tag: 48, Body: mixed(3992)})
	wantAllCode(t, impl.BerPut(4, mixed(4000))+impl.BerPut(48, mixed(3993)), impl.ErrSize)
	for _, b := range []string{"\x00", "\x1f", "\x04", "\xff"} {
		wantAllCode(t, strings.Repeat(b, impl.MaxBytes+1), impl.ErrSize)
		wantIntRead(t, strings.Repeat(b, impl.MaxBytes+1), impl.NumOut{Code: impl.ErrSize})
		wantIntRead(t, strings.Repeat(b, impl.MaxBytes), impl.NumOut{Code: impl.ErrSyntax})
	}
}

// elements returns elements of different tags and sizes, and their text.
func elements(many int) ([]impl.Tlv, string) {
	tags := tagBytes()
	var all []impl.Tlv
	var text strings.Builder
	for i := range many {
		one := impl.Tlv{Tag: tags[i*7%len(tags)], Body: mixed(i * 53 % 131)}
		all = append(all, one)
		text.WriteString(tlvBytes(one.Tag, one.Body))
	}
	return all, text.String()
}

func TestBerAll(t *testing.T) {
	wantAll(t, "")
	wantAll(t, "\x00\x00", impl.Tlv{})
	wantAll(t, "\x05\x00\x02\x01\x07", impl.Tlv{Tag: 5}, impl.Tlv{Tag: 2, Body: "\x07"})
	for many := range 61 {
		all, text := elements(many)
		wantAll(t, text, all...)
	}
	for _, many := range []int{61, 62, 63, 90} {
		_, text := elements(many)
		wantAllCode(t, text, impl.ErrFull)
	}
	wantAll(t, strings.Repeat("\x04\x00", 60), slices.Repeat([]impl.Tlv{{Tag: 4}}, 60)...)
	wantAllCode(t, strings.Repeat("\x04\x00", 61), impl.ErrFull)
	wantAllCode(t, strings.Repeat("\x04\x00", 4000), impl.ErrFull)
	// What is in a body is not decoded.
	wantAll(t, impl.BerPut(48, "\x1f\xff\x80")+impl.BerPut(4, strings.Repeat("\x04\x00", 61)),
		impl.Tlv{Tag: 48, Body: "\x1f\xff\x80"}, impl.Tlv{Tag: 4, Body: strings.Repeat("\x04\x00", 61)})
}

func TestBerAllErrors(t *testing.T) {
	wrong := map[string]int64{
		"\x04": impl.ErrShort, "\x04\x01": impl.ErrShort, "\x04\x81": impl.ErrShort, "\x04\x82\x01": impl.ErrShort, "\x04\x81\x80a": impl.ErrShort,
		"\x1f": impl.ErrSyntax, "\xff\x00": impl.ErrSyntax, "\x04\x80": impl.ErrSyntax, "\x04\x81\x01a": impl.ErrSyntax, "\x04\x82\x0f\xa1": impl.ErrSyntax,
	}
	for text, code := range wrong {
		for _, many := range []int{0, 1, 2, 30, 59, 60} {
			_, before := elements(many)
			wantAllCode(t, before+text, code)
		}
		for _, many := range []int{61, 62} {
			_, before := elements(many)
			wantAllCode(t, before+text, impl.ErrFull)
		}
	}
	// With a good element behind it, a wrong one is still wrong.
	for _, many := range []int{0, 5, 60} {
		_, text := elements(many)
		wantAllCode(t, text+"\x1f\x00"+"\x04\x00", impl.ErrSyntax)
	}
	for many := range 62 {
		all, text := elements(many)
		for cut := range len(text) {
			if cut < 300 || cut > len(text)-300 {
				checkAll(t, text[:cut], all)
			}
		}
	}
}

// checkAll asks for the elements of a text that is cut from the text of all of them, and for ErrShort if it ends within one.
func checkAll(t *testing.T, text string, all []impl.Tlv) {
	t.Helper()
	size := 0
	for i, one := range all {
		if size == len(text) {
			wantAll(t, text, all[:i]...)
			return
		}
		size += len(tlvBytes(one.Tag, one.Body))
		if size > len(text) {
			wantAllCode(t, text, impl.ErrShort)
			return
		}
	}
}

// Every short text is as many elements as BerGet finds, one behind the other.
func TestBerAllByTheRule(t *testing.T) {
	seen := make(map[int64]int)
	for _, text := range codedTexts(4) {
		var all []impl.Tlv
		var code int64
		for rest := text; rest != "" && code == impl.OK; {
			one := tlvRule(rest)
			code = one.Code
			all = append(all, one.Tlv)
			rest = rest[one.At:]
		}
		seen[code]++
		if code != impl.OK {
			wantAllCode(t, text, code)
			continue
		}
		wantAll(t, text, all...)
	}
	if seen[impl.OK] < 100 || seen[impl.ErrShort] < 1000 || seen[impl.ErrSyntax] < 1000 {
		t.Errorf("the codes were %v", seen)
	}
}

func TestBerIntBytes(t *testing.T) {
	for _, c := range []struct {
		n    int64
		want string
	}{
		{0, "\x00"}, {1, "\x01"}, {-1, "\xff"}, {127, "\x7f"}, {128, "\x00\x80"}, {255, "\x00\xff"}, {256, "\x01\x00"}, {-128, "\x80"}, {-129, "\xff\x7f"},
		{-255, "\xff\x01"}, {-256, "\xff\x00"}, {-257, "\xfe\xff"}, {32767, "\x7f\xff"}, {32768, "\x00\x80\x00"}, {-32768, "\x80\x00"}, {-32769, "\xff\x7f\xff"},
		{1<<23 - 1, "\x7f\xff\xff"}, {1 << 23, "\x00\x80\x00\x00"}, {-1 << 23, "\x80\x00\x00"}, {-1<<23 - 1, "\xff\x7f\xff\xff"},
		{1<<55 - 1, "\x7f\xff\xff\xff\xff\xff\xff"}, {1 << 55, "\x00\x80\x00\x00\x00\x00\x00\x00"}, {-1 << 55, "\x80\x00\x00\x00\x00\x00\x00"},
		{-1<<55 - 1, "\xff\x7f\xff\xff\xff\xff\xff\xff"}, {math.MaxInt64, "\x7f\xff\xff\xff\xff\xff\xff\xff"}, {math.MinInt64, "\x80\x00\x00\x00\x00\x00\x00\x00"},
	} {
		for _, tag := range tagBytes() {
			if got, want := impl.BerInt(tag, c.n), tlvBytes(tag, c.want); got != want {
				t.Errorf("BerInt(%d, %d) = %x, want %x", tag, c.n, got, want)
			}
		}
		for _, tag := range noTags() {
			if got := impl.BerInt(tag, c.n); got != "" {
				t.Errorf("BerInt(%d, %d) = %x", tag, c.n, got)
			}
		}
		wantIntRead(t, c.want, impl.NumOut{N: c.n})
	}
}

// Promise 20.
func TestIntIsDecodedFromItsBody(t *testing.T) {
	nums := edgeNums()
	for n := int64(-70000); n <= 70000; n++ {
		nums = append(nums, n)
	}
	for i := range int64(4000) {
		nums = append(nums, i*0x5851F42D4C957F2D+1)
	}
	sizes := make(map[int]int)
	for _, n := range nums {
		text := impl.BerInt(2, n)
		want, err := asn1.Marshal(n)
		if err != nil || text != string(want) {
			t.Errorf("BerInt(2, %d) = %x, want %x", n, text, want)
		}
		one := impl.BerGet(text+"\x1f", 0)
		sizes[len(one.Tlv.Body)]++
		wantGet(t, text, 0, impl.TlvOut{Tlv: impl.Tlv{Tag: 2, Body: text[2:]}, At: int64(len(text))})
		wantIntRead(t, one.Tlv.Body, impl.NumOut{N: n})
	}
	for size := 1; size <= 8; size++ {
		if sizes[size] < 10 {
			t.Errorf("%d integers have %d bytes", sizes[size], size)
		}
	}
}

// intRule is the rule for BerIntRead: more bytes than necessary begin with nine equal bits.
func intRule(body string) impl.NumOut {
	if len(body) == 0 || len(body) > 8 || len(body) > 1 && (body[:1] == "\x00" && body[1] < 128 || body[:1] == "\xff" && body[1] >= 128) {
		return impl.NumOut{Code: impl.ErrSyntax}
	}
	fill := "\x00"
	if body[0] >= 128 {
		fill = "\xff"
	}
	whole := strings.Repeat(fill, 8-len(body)) + body
	return impl.NumOut{N: int64(binary.BigEndian.Uint64([]byte(whole)))}
}

func TestBerIntReadByTheRule(t *testing.T) {
	wantIntRead(t, "", impl.NumOut{Code: impl.ErrSyntax})
	for first := range 256 {
		wantIntRead(t, string([]byte{byte(first)}), impl.NumOut{N: int64(int8(first))})
		for second := range 256 {
			two := string([]byte{byte(first), byte(second)})
			for size := range 9 {
				body := two + mixed(size)
				wantIntRead(t, body, intRule(body))
				body = two + strings.Repeat("\xff", size)
				wantIntRead(t, body, intRule(body))
				body = two + strings.Repeat("\x00", size)
				wantIntRead(t, body, intRule(body))
			}
		}
	}
}

func TestBerIntReadErrors(t *testing.T) {
	bodies := []string{"\x00\x00", "\x00\x01", "\x00\x7f", "\xff\xff", "\xff\x80", "\x00\x00\x80", "\xff\xff\x7f", "\xff\xff\xff\xff\xff\xff\xff\xff"}
	bodies = append(bodies, strings.Repeat("\x00", 8), "\x00"+strings.Repeat("\xff", 8), "\x00\x80"+strings.Repeat("\x00", 7), "\x01"+strings.Repeat("\x00", 8))
	for size := 9; size < 40; size++ {
		bodies = append(bodies, mixed(size), strings.Repeat("\x7f", size), strings.Repeat("\xff", size), strings.Repeat("\x00", size))
	}
	for _, body := range bodies {
		wantIntRead(t, body, impl.NumOut{Code: impl.ErrSyntax})
	}
	wantIntRead(t, "\x00\x80\x00\x00\x00\x00\x00\x00", impl.NumOut{N: 1 << 55})
	wantIntRead(t, "\x01\x00\x00\x00\x00\x00\x00\x00", impl.NumOut{N: 1 << 56})
}

func TestBerResultsShareNoMemory(t *testing.T) {
	body := mixed(300)
	element := impl.BerPut(48, body)
	text := element + element
	all := impl.BerAll(text)
	if len(all.Tlvs) != 2 {
		t.Fatalf("there are %d elements", len(all.Tlvs))
	}
	for _, pair := range [][2]string{
		{body, element},
		{text, impl.BerGet(text, 0).Tlv.Body},
		{text, impl.BerGet(text, int64(len(element))).Tlv.Body},
		{text, all.Tlvs[0].Body},
		{text, all.Tlvs[1].Body},
		{all.Tlvs[0].Body, all.Tlvs[1].Body},
	} {
		if shareMemory(pair[0], pair[1]) {
			t.Errorf("%.40q shares memory with %.40q", pair[0], pair[1])
		}
	}
}
