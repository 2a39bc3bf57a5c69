package tests

import (
	"math"
	"slices"
	"strings"
	"testing"

	"loop.example/g00402/impl"
)

// someEntries returns many valid entries with short encodings.
func someEntries(many int) []impl.Entry {
	var all []impl.Entry
	for i, name := range numbered("u", many) {
		all = append(all, impl.Entry{Dn: rdns("cn", name), Attrs: manyAttrs(i % 4)})
	}
	return all
}

// answerWith returns an answer without a code that has these entries.
func answerWith(entries ...impl.Entry) impl.Answer {
	return impl.Answer{Id: 1, Entries: entries}
}

func goodCodes() []int64 {
	var all []int64
	for code := range int64(21) {
		all = append(all, code)
	}
	return all
}

func wrongCodes() []int64 {
	return []int64{-1, 21, 22, -20, 127, 128, 256, 256 + impl.ErrNone, 1 << 32, 1<<32 + impl.ErrNone, math.MaxInt64, math.MinInt64}
}

// validAnswers returns answers, none of them too long, with every edge that the chapter names.
func validAnswers() []impl.Answer {
	all := []impl.Answer{
		{Id: 5, Code: impl.ErrNone, Entries: []impl.Entry{}},
		{Id: 5, Code: impl.ErrNone, Entries: []impl.Entry{{Dn: rdns("cn", "x"), Attrs: []impl.Attr{}}}},
		answerWith(slices.Repeat(someEntries(1), 2)...),
	}
	for _, id := range goodIds() {
		all = append(all, impl.Answer{Id: id}, impl.Answer{Id: id, Code: 20, Entries: someEntries(3)})
	}
	for _, code := range goodCodes() {
		all = append(all, impl.Answer{Id: 1, Code: code}, impl.Answer{Id: 1, Code: code, Entries: someEntries(2)})
	}
	for many := range impl.MaxEntries + 1 {
		all = append(all, answerWith(someEntries(many)...))
	}
	for _, e := range validEntries() {
		all = append(all, answerWith(e), answerWith(someEntries(1)[0], e, someEntries(1)[0]))
	}
	for _, dn := range validDns() {
		if len(dn) > 0 {
			all = append(all, answerWith(impl.Entry{Dn: dn}))
		}
	}
	return all
}

// wrongAnswers returns answers that break one rule each.
func wrongAnswers() []impl.Answer {
	all := []impl.Answer{{}, answerWith(someEntries(21)...), answerWith(someEntries(22)...), answerWith(someEntries(impl.MaxList + 1)...)}
	for _, id := range wrongIds() {
		all = append(all, impl.Answer{Id: id}, impl.Answer{Id: id, Code: 1, Entries: someEntries(1)})
	}
	for _, code := range wrongCodes() {
		all = append(all, impl.Answer{Id: 1, Code: code}, impl.Answer{Id: 1, Code: code, Entries: someEntries(1)})
	}
	for _, e := range invalidEntries() {
		all = append(all, answerWith(e), answerWith(slices.Insert(someEntries(3), 1, e)...))
	}
	for _, dn := range invalidDns() {
		all = append(all, answerWith(impl.Entry{Dn: dn}), answerWith(append(someEntries(19), impl.Entry{Dn: dn})...))
	}
	return all
}

// bodyOfSize returns a valid answer whose outer element has a body of this size, or would have it.
func bodyOfSize(t *testing.T, size int) impl.Answer {
	t.Helper()
	a := impl.Answer{Id: 1}
	for _, name := range numbered("u", impl.MaxEntries) {
		e := impl.Entry{Dn: rdns("cn", name)}
		for _, attr := range manyAttrs(5) {
			attr.Values = []string{strings.Repeat("v", 40)}
			e.Attrs = append(e.Attrs, attr)
		}
		a.Entries = append(a.Entries, e)
	}
	for i := 0; answerBodySize(a) > size; i++ {
		e := a.Entries[i/5%len(a.Entries)]
		value := e.Attrs[i%5].Values[0]
		if len(value) == 1 {
			t.Fatalf("no answer has a body of %d bytes", size)
		}
		e.Attrs[i%5].Values[0] = value[1:]
	}
	if answerBodySize(a) != size {
		t.Fatalf("the body has %d bytes, not %d", answerBodySize(a), size)
	}
	return a
}

func equalAnswer(a impl.Answer, b impl.Answer) bool {
	return a.Id == b.Id && a.Code == b.Code && slices.EqualFunc(a.Entries, b.Entries, equalEntry)
}

func wantAnswer(t *testing.T, text string, got impl.AnswerOut, want impl.Answer, code int64) {
	t.Helper()
	if !equalAnswer(got.Answer, want) || got.Code != code {
		t.Errorf("the answer of %.900q is %+v with code %d, want %+v with code %d", text, got.Answer, got.Code, want, code)
	}
}

func wantAnswerCode(t *testing.T, text string, code int64) {
	t.Helper()
	wantAnswer(t, text, impl.AnswerRead(text), impl.Answer{}, code)
}

// answerBody is the rule for the body of an answer, without the check that anything is valid.
func answerBody(a impl.Answer) string {
	body := tlvInt(2, a.Id)
	for _, e := range a.Entries {
		body += tlv(100, tlv(4, dnTextOf(e.Dn)), tlv(48, attrsTlv(e.Attrs)))
	}
	return body + tlvInt(10, a.Code)
}

func answerBodySize(a impl.Answer) int {
	return len(answerBody(a))
}

func answerTlv(a impl.Answer) string {
	return tlv(48, answerBody(a))
}

func TestAnswerRight(t *testing.T) {
	for _, a := range validAnswers() {
		if !impl.AnswerRight(a) {
			t.Errorf("%+v is not valid", a)
		}
	}
	for _, a := range wrongAnswers() {
		if impl.AnswerRight(a) {
			t.Errorf("%+v is valid", a)
		}
	}
}

func TestAnswerBytes(t *testing.T) {
	one := impl.Entry{Dn: rdns("cn", "x"), Attrs: attrs(attr("mail", "a"))}
	for _, c := range []struct {
		a    impl.Answer
		want string
	}{
		{impl.Answer{Id: 1}, "\x30\x06\x02\x01\x01\x0a\x01\x00"},
		{impl.Answer{Id: 1000, Code: 20}, "\x30\x07\x02\x02\x03\xe8\x0a\x01\x14"},
		{answerWith(someEntries(1)...), "\x30\x12\x02\x01\x01\x64\x0a\x04\x06cn=u10\x30\x00\x0a\x01\x00"},
		{
			impl.Answer{Id: 5, Code: 6, Entries: []impl.Entry{one}},
			"\x30\x1d\x02\x01\x05\x64\x15\x04\x04cn=x\x30\x0d\x30\x0b\x04\x04mail\x31\x03\x04\x01a\x0a\x01\x06",
		},
	} {
		if got := impl.AnswerBytes(c.a); got != c.want {
			t.Errorf("the encoding of %+v is %q, want %q", c.a, got, c.want)
		}
		wantAnswer(t, c.want, impl.AnswerRead(c.want), c.a, impl.OK)
	}
}

func TestAnswerBytesByTheRule(t *testing.T) {
	for _, a := range validAnswers() {
		if got, want := impl.AnswerBytes(a), answerTlv(a); got != want || want == "" {
			t.Errorf("the encoding of %+v is %q, want %q", a, got, want)
		}
	}
	for _, a := range wrongAnswers() {
		if got := impl.AnswerBytes(a); got != "" {
			t.Errorf("the encoding of %+v is %.900q", a, got)
		}
	}
}

// Promise 22.
func TestAnswerIsDecodedFromItsEncoding(t *testing.T) {
	for _, a := range validAnswers() {
		text := impl.AnswerBytes(a)
		wantAnswer(t, text, impl.AnswerRead(text), a, impl.OK)
	}
}

// Promise 22: an answer without an encoding is one that is too long.
func TestLongAnswers(t *testing.T) {
	for _, size := range []int{3000, 3900, 3998, 3999, 4000} {
		a := bodyOfSize(t, size)
		text := impl.AnswerBytes(a)
		if text != answerTlv(a) || len(text) != size+4 {
			t.Errorf("the encoding of an answer with a body of %d bytes has %d bytes", size, len(text))
		}
		wantAnswer(t, text, impl.AnswerRead(text), a, impl.OK)
	}
	for _, size := range []int{4001, 4002, 4010, 4096, 5000} {
		a := bodyOfSize(t, size)
		if got := impl.AnswerBytes(a); got != "" || !impl.AnswerRight(a) {
			t.Errorf("the encoding of an answer with a body of %d bytes has %d bytes", size, len(got))
		}
		wantAnswerCode(t, answerTlv(a), impl.ErrSyntax)
	}
	longest := answerWith(slices.Repeat([]impl.Entry{widestEntry()}, impl.MaxEntries)...)
	if got := impl.AnswerBytes(longest); got != "" || !impl.AnswerRight(longest) {
		t.Errorf("the encoding of the longest answer has %d bytes", len(got))
	}
	wantAnswerCode(t, answerTlv(longest), impl.ErrSize)
}

// Twenty entries are one element each, and with the Id and the Code fewer than the elements that BerAll takes.
func TestManyEntriesAreDecoded(t *testing.T) {
	a := impl.Answer{Id: impl.MaxTime, Code: 20, Entries: someEntries(20)}
	text := answerTlv(a)
	wantAnswer(t, text, impl.AnswerRead(text), a, impl.OK)
	for _, many := range []int{21, 30, 57, 58, 59, 60, 61, 100} {
		wantAnswerCode(t, answerTlv(answerWith(someEntries(many)...)), impl.ErrSyntax)
	}
}

// The encodings of answers whose fields are wrong are well-formed.
func TestWrongAnswersAreNotDecoded(t *testing.T) {
	for _, a := range wrongAnswers() {
		text := answerTlv(a)
		code := int64(impl.ErrSyntax)
		if len(text) > impl.MaxBytes {
			code = impl.ErrSize
		}
		wantAnswerCode(t, text, code)
	}
}
