package tests

import (
	"slices"
	"strings"
	"testing"

	"loop.example/g00402/impl"
)

// mismatch is what a taker panics with.
type mismatch struct{}

// taker takes elements from the beginning of a text, and panics where one is not as it has to be.
type taker struct {
	rest string
}

func (p *taker) need(ok bool) {
	if !ok {
		panic(mismatch{})
	}
}

func (p *taker) text(tag int64) string {
	one := tlvRule(p.rest)
	p.need(one.Code == impl.OK && one.Tlv.Tag == tag)
	p.rest = p.rest[one.At:]
	return one.Tlv.Body
}

func (p *taker) number(tag int64) int64 {
	out := intRule(p.text(tag))
	p.need(out.Code == impl.OK)
	return out.N
}

// inside takes an element and has its parts taken, up to the last byte.
func (p *taker) inside(tag int64, parts func(p *taker)) {
	body := &taker{rest: p.text(tag)}
	parts(body)
	body.need(body.rest == "")
}

func (p *taker) attr() impl.Attr {
	var a impl.Attr
	p.inside(48, func(p *taker) {
		a.Name = p.text(4)
		p.inside(49, func(p *taker) {
			for p.rest != "" {
				a.Values = append(a.Values, p.text(4))
			}
		})
	})
	return a
}

func (p *taker) attrs() []impl.Attr {
	var all []impl.Attr
	p.inside(48, func(p *taker) {
		for p.rest != "" {
			all = append(all, p.attr())
		}
	})
	return all
}

func (p *taker) mods() []impl.Mod {
	var all []impl.Mod
	p.inside(48, func(p *taker) {
		for p.rest != "" {
			p.inside(48, func(p *taker) {
				kind := p.number(10) + 1
				a := p.attr()
				all = append(all, mod(kind, a.Name, a.Values...))
			})
		}
	})
	return all
}

// request takes the element of a kind whose tag is the next one.
func (p *taker) request(m *impl.Msg) {
	p.need(p.rest != "")
	tag := int64(p.rest[0])
	m.Kind = map[int64]int64{96: impl.MsBind, 99: impl.MsSearch, 104: impl.MsAdd, 74: impl.MsDelete, 102: impl.MsModify, 108: impl.MsMove, 110: impl.MsCompare}[tag]
	if m.Kind == impl.MsDelete {
		m.Dn = p.text(tag)
		return
	}
	p.inside(tag, func(p *taker) {
		if m.Kind == impl.MsBind {
			p.need(p.number(2) == 3)
		}
		m.Dn = p.text(4)
		switch m.Kind {
		case impl.MsBind:
			m.Value = p.text(128)
		case impl.MsSearch:
			m.Scope, m.Size, m.Filter = p.number(10), p.number(2), p.text(4)
		case impl.MsAdd:
			m.Attrs = p.attrs()
		case impl.MsModify:
			m.Mods = p.mods()
		case impl.MsMove:
			m.Rdn, m.Parent = p.text(4), p.text(128)
		case impl.MsCompare:
			m.Attrs = attrs(p.attr())
		}
	})
}

func (p *taker) entry() impl.Entry {
	var e impl.Entry
	p.inside(100, func(p *taker) {
		dn := impl.DnRead(p.text(4))
		p.need(dn.Code == impl.OK)
		e = impl.Entry{Dn: dn.Dn, Attrs: p.attrs()}
	})
	return e
}

// taken reports whether the parts of a text are as they have to be, up to the last byte.
func taken(text string, parts func(p *taker)) (ok bool) {
	defer func() {
		if r := recover(); r != nil && r != (mismatch{}) {
			panic(r)
		}
	}()
	p := &taker{rest: text}
	p.inside(48, parts)
	return p.rest == ""
}

// isProper is the rule for a proper value.
func isProper(value string) bool {
	return len(value) <= 40 && impl.Norm(value) != ""
}

// fits is the rule for a valid request that was taken from a text, where the fields of other kinds are zero.
func fits(m impl.Msg) bool {
	dn := impl.DnRead(m.Dn)
	if m.Id < 1 || m.Id > impl.MaxTime || dn.Code != impl.OK || len(dn.Dn) == 0 && m.Kind != impl.MsSearch {
		return false
	}
	rdn, parent := impl.DnRead(m.Rdn), impl.DnRead(m.Parent)
	switch m.Kind {
	case impl.MsBind:
		return isProper(m.Value)
	case impl.MsSearch:
		return m.Scope >= 0 && m.Scope < 3 && m.Size > 0 && m.Size <= 20 && impl.FilterRead(m.Filter).Code == impl.OK
	case impl.MsAdd:
		return impl.EntryRight(person(m.Attrs...))
	case impl.MsModify:
		wrong := func(one impl.Mod) bool { return !impl.ModRight(one) }
		return len(m.Mods) > 0 && len(m.Mods) <= 10 && !slices.ContainsFunc(m.Mods, wrong)
	case impl.MsMove:
		return rdn.Code == impl.OK && len(rdn.Dn) == 1 && parent.Code == impl.OK
	case impl.MsCompare:
		return impl.EntryRight(person(m.Attrs...)) && len(m.Attrs[0].Values) == 1
	}
	return m.Kind == impl.MsDelete
}

// msgRule is the rule for MsgRead of a text within the size limit.
func msgRule(text string) impl.MsgOut {
	var m impl.Msg
	ok := taken(text, func(p *taker) {
		m.Id = p.number(2)
		p.request(&m)
	})
	if !ok || !fits(m) {
		return impl.MsgOut{Code: impl.ErrSyntax}
	}
	return impl.MsgOut{Msg: m}
}

// answerRule is the rule for AnswerRead of a text within the size limit.
func answerRule(text string) impl.AnswerOut {
	var a impl.Answer
	ok := taken(text, func(p *taker) {
		a.Id = p.number(2)
		for p.rest != "" && p.rest[0] == 100 {
			a.Entries = append(a.Entries, p.entry())
		}
		a.Code = p.number(10)
	})
	wrong := func(e impl.Entry) bool { return !impl.EntryRight(e) }
	if !ok || a.Id < 1 || a.Id > impl.MaxTime || a.Code < 0 || a.Code > 20 || len(a.Entries) > 20 || slices.ContainsFunc(a.Entries, wrong) {
		return impl.AnswerOut{Code: impl.ErrSyntax}
	}
	return impl.AnswerOut{Answer: a}
}

// readCounts counts what became of texts: the requests by their kinds, the answers, and the texts that are neither.
type readCounts struct {
	kinds   map[int64]int
	answers int
	neither int
}

// checkRead reads a text as a request and as an answer, as the rules do.
func (c *readCounts) checkRead(t *testing.T, text string) {
	t.Helper()
	m, a := msgRule(text), answerRule(text)
	wantMsg(t, text, impl.MsgRead(text), m.Msg, m.Code)
	wantAnswer(t, text, impl.AnswerRead(text), a.Answer, a.Code)
	switch {
	case m.Code == impl.OK:
		c.kinds[m.Msg.Kind]++
		if a.Code == impl.OK || impl.MsgBytes(m.Msg) != text {
			t.Errorf("%q is another encoding of %+v", text, m.Msg)
		}
	case a.Code == impl.OK:
		c.answers++
		if impl.AnswerBytes(a.Answer) != text {
			t.Errorf("%q is another encoding of %+v", text, a.Answer)
		}
	default:
		c.neither++
	}
}

// wantReads wants the texts to have been requests of every kind, answers, and neither, at least so often.
func (c *readCounts) wantReads(t *testing.T, each int, neither int) {
	t.Helper()
	for _, kind := range msgKinds() {
		if c.kinds[kind] < each {
			t.Errorf("%d texts are requests of kind %d", c.kinds[kind], kind)
		}
	}
	if c.answers < each || c.neither < neither {
		t.Errorf("%d texts are answers and %d are neither", c.answers, c.neither)
	}
}

func newCounts() *readCounts {
	return &readCounts{kinds: make(map[int64]int)}
}

func shortAnswer() impl.Answer {
	one := impl.Entry{Dn: rdns("cn", "x"), Attrs: attrs(attr("mail", "a", "b"))}
	return impl.Answer{Id: 5, Code: impl.ErrNone, Entries: []impl.Entry{one, {Dn: rdns("ou", "y")}}}
}

// shortTlvs returns the encoding of a short request of each kind, and those of answers.
func shortTlvs() []string {
	all := []string{answerTlv(impl.Answer{Id: 7}), answerTlv(shortAnswer())}
	for _, kind := range msgKinds() {
		all = append(all, msgTlv(request(kind)))
	}
	return append(all, msgTlv(edited(request(impl.MsSearch), func(m *impl.Msg) { m.Id, m.Dn = 300, "" })))
}

func TestReadOfEveryValidMessage(t *testing.T) {
	counts := newCounts()
	for _, m := range validMsgs() {
		counts.checkRead(t, msgTlv(m))
	}
	for _, a := range validAnswers() {
		counts.checkRead(t, answerTlv(a))
	}
	counts.wantReads(t, 100, 0)
	if counts.neither > 0 {
		t.Errorf("%d texts are neither", counts.neither)
	}
}

// The encodings of requests whose own fields are wrong are well-formed.
func TestWrongRequestsAreNotDecoded(t *testing.T) {
	for _, m := range wrongMsgs() {
		text := msgTlv(m)
		if len(text) > impl.MaxBytes {
			wantMsgCode(t, text, impl.ErrSize)
			continue
		}
		wantMsgCode(t, text, impl.ErrSyntax)
	}
}

func TestChangedBytes(t *testing.T) {
	counts := newCounts()
	for _, text := range shortTlvs() {
		for at := range len(text) {
			counts.checkRead(t, text[:at])
			counts.checkRead(t, text[at:])
			counts.checkRead(t, text[:at]+text[at+1:])
			for b := range 256 {
				c := string([]byte{byte(b)})
				counts.checkRead(t, text[:at]+c+text[at+1:])
				counts.checkRead(t, text[:at]+c+text[at:])
			}
		}
		for b := range 256 {
			more := string([]byte{byte(b)})
			wantMsgCode(t, text+more, impl.ErrSyntax)
			wantAnswerCode(t, text+more, impl.ErrSyntax)
		}
		wantMsgCode(t, text+text, impl.ErrSyntax)
		wantAnswerCode(t, text+text, impl.ErrSyntax)
	}
	counts.wantReads(t, 100, 10000)
}

// ber is an element whose parts are those of its body, if it is one that has parts in a message.
type ber struct {
	tag   int64
	body  string
	parts []ber
}

func hasParts(tag int64) bool {
	return slices.Contains([]int64{48, 49, 96, 99, 100, 102, 104, 108, 110}, tag)
}

func berOf(one impl.Tlv) ber {
	if !hasParts(one.Tag) {
		return ber{tag: one.Tag, body: one.Body}
	}
	var parts []ber
	for _, part := range impl.BerAll(one.Body).Tlvs {
		parts = append(parts, berOf(part))
	}
	return ber{tag: one.Tag, parts: parts}
}

func (b ber) text() string {
	body := b.body
	for _, part := range b.parts {
		body += part.text()
	}
	return tlv(b.tag, body)
}

// strangers returns elements that may be put beside others.
func strangers() []ber {
	return []ber{
		{tag: 4, body: "cn=z"}, {tag: 4}, {tag: 2, body: "\x01"}, {tag: 10, body: "\x01"}, {tag: 128, body: "cn=z"}, {tag: 48}, {tag: 49}, {tag: 74, body: "cn=z"},
		{tag: 5}, {tag: 48, parts: []ber{{tag: 4, body: "zz"}, {tag: 49, parts: []ber{{tag: 4, body: "z"}}}}}, {tag: 100, parts: []ber{{tag: 4, body: "cn=z"}, {tag: 48}}},
	}
}

// lists returns the parts of an element with one of them missing, twice, or elsewhere, and with one more.
func lists(parts []ber) [][]ber {
	var all [][]ber
	for i, part := range parts {
		rest := slices.Delete(slices.Clone(parts), i, i+1)
		all = append(all, rest, parts[:i], parts[i:])
		for k := range len(parts) {
			all = append(all, slices.Insert(slices.Clone(rest), k, part), slices.Insert(slices.Clone(parts), k, part))
		}
	}
	for k := range len(parts) + 1 {
		for _, stranger := range strangers() {
			all = append(all, slices.Insert(slices.Clone(parts), k, stranger))
		}
	}
	return all
}

// variants returns the element with a change in one place, which may be inside of it.
func variants(b ber) []ber {
	all := []ber{{tag: b.tag}, {tag: b.tag, body: b.body + "\x00", parts: b.parts}}
	for _, tag := range tagBytes() {
		if tag != b.tag {
			all = append(all, ber{tag: tag, body: b.body, parts: b.parts})
		}
	}
	for _, parts := range lists(b.parts) {
		all = append(all, ber{tag: b.tag, parts: parts})
	}
	for i, part := range b.parts {
		for _, other := range append(variants(part), strangers()...) {
			parts := slices.Clone(b.parts)
			parts[i] = other
			all = append(all, ber{tag: b.tag, parts: parts})
		}
	}
	return all
}

// Elements that are missing, in another order, too many, or with another tag.
func TestChangedElements(t *testing.T) {
	counts := newCounts()
	for _, text := range shortTlvs() {
		whole := berOf(impl.BerGet(text, 0).Tlv)
		if whole.text() != text {
			t.Fatalf("the elements of %q are %v", text, whole)
		}
		for _, other := range variants(whole) {
			counts.checkRead(t, other.text())
		}
	}
	counts.wantReads(t, 2, 10000)
}

// No element of a request may be missing or be put before the others.
func TestMissingElements(t *testing.T) {
	for _, kind := range msgKinds() {
		whole := berOf(impl.BerGet(msgTlv(request(kind)), 0).Tlv)
		for i := range whole.parts {
			wantMsgCode(t, ber{tag: 48, parts: slices.Delete(slices.Clone(whole.parts), i, i+1)}.text(), impl.ErrSyntax)
		}
		own := whole.parts[1]
		for i := range own.parts {
			less := ber{tag: own.tag, parts: slices.Delete(slices.Clone(own.parts), i, i+1)}
			wantMsgCode(t, ber{tag: 48, parts: []ber{whole.parts[0], less}}.text(), impl.ErrSyntax)
			front := ber{tag: own.tag, parts: slices.Insert(slices.Clone(less.parts), 0, own.parts[i])}
			// The first two elements of a move are both of DNs.
			if i > 0 && (kind != impl.MsMove || i > 1) {
				wantMsgCode(t, ber{tag: 48, parts: []ber{whole.parts[0], front}}.text(), impl.ErrSyntax)
			}
		}
	}
}

// A request is not an answer, nor the other way round.
func TestOtherMessages(t *testing.T) {
	for _, m := range validMsgs() {
		wantAnswerCode(t, impl.MsgBytes(m), impl.ErrSyntax)
	}
	for _, a := range validAnswers() {
		wantMsgCode(t, impl.AnswerBytes(a), impl.ErrSyntax)
	}
}

func TestOtherStrings(t *testing.T) {
	id := tlvInt(2, 1)
	for _, text := range []string{
		"", "x", "\x00", "\x30", "\x30\x00", "\x30\x80", "\x1f\x00", "\xff",
		tlv(48, id), tlv(48, tlv(74, "cn=x")), tlv(48, tlv(74, "cn=x"), id), tlv(48, tlvInt(10, 0)), tlv(48, tlvInt(10, 0), id),
		tlv(48, id, id), tlv(48, id, tlv(74)), tlv(49, id, tlv(74, "cn=x")), tlv(48, tlvInt(10, 1), tlv(74, "cn=x")),
		tlv(48, tlv(2, "\x00\x01"), tlv(74, "cn=x")), tlv(48, tlv(2), tlv(74, "cn=x")), tlv(48, tlv(2, mixed(9)), tlv(74, "cn=x")),
		tlv(48, tlv(2, "\x00\x01"), tlvInt(10, 0)), tlv(48, id, tlv(10, "\x00\x01")), tlv(48, id, tlv(10)),
		tlv(48, id, tlv(96, tlvInt(2, 2), tlv(4, "cn=x"), tlv(128, "7"))), tlv(48, id, tlv(96, tlvInt(2, 4), tlv(4, "cn=x"), tlv(128, "7"))),
		tlv(48, id, tlv(96, tlv(2, "\x00\x03"), tlv(4, "cn=x"), tlv(128, "7"))), tlv(48, id, tlv(96, tlv(2), tlv(4, "cn=x"), tlv(128, "7"))),
		"\x30\x81\x09\x02\x01\x01\x4a\x04cn=x", "\x30\x82\x00\x09\x02\x01\x01\x4a\x04cn=x", "\x30\x0a\x02\x01\x01\x4a\x81\x04cn=x",
		"\x30\x81\x06\x02\x01\x01\x0a\x01\x00", "\x30\x07\x02\x81\x01\x01\x0a\x01\x00",
		strings.Repeat("\x30\x00", 4000), strings.Repeat("x", impl.MaxBytes), strings.Repeat("\xff", impl.MaxBytes),
		tlv(48, mixed(impl.MaxBytes-4)), tlv(48, id, strings.Repeat(tlv(100), 1990), tlvInt(10, 0)),
	} {
		wantMsgCode(t, text, impl.ErrSyntax)
		wantAnswerCode(t, text, impl.ErrSyntax)
	}
}

func TestReadSizeLimits(t *testing.T) {
	for _, text := range shortTlvs() {
		full := text + strings.Repeat("\x00", impl.MaxBytes-len(text))
		wantMsgCode(t, full, impl.ErrSyntax)
		wantAnswerCode(t, full, impl.ErrSyntax)
		wantMsgCode(t, full+"\x00", impl.ErrSize)
		wantAnswerCode(t, full+"\x00", impl.ErrSize)
	}
	for _, size := range []int{impl.MaxBytes + 1, impl.MaxBytes + 2, 1 << 16, 1 << 20} {
		wantMsgCode(t, mixed(size), impl.ErrSize)
		wantAnswerCode(t, strings.Repeat("\x30", size), impl.ErrSize)
	}
}

// msgTexts returns all strings of a request.
func msgTexts(m impl.Msg) []string {
	out := []string{m.Dn, m.Value, m.Filter, m.Rdn, m.Parent}
	out = append(out, textsOf(impl.Entry{Attrs: m.Attrs})...)
	for _, one := range m.Mods {
		out = append(append(out, one.Attr), one.Values...)
	}
	return out
}

// valueLists returns the lists of values of a request.
func valueLists(m impl.Msg) [][]string {
	var out [][]string
	for _, a := range m.Attrs {
		out = append(out, a.Values)
	}
	for _, one := range m.Mods {
		out = append(out, one.Values)
	}
	return out
}

// wantApart wants no two of the strings, and no two of the lists, to share memory.
func wantApart(t *testing.T, texts []string, lists [][]string) {
	t.Helper()
	for i := range texts {
		if shareTexts(texts[:i], texts[i:i+1]) {
			t.Errorf("%q share memory", texts)
		}
	}
	for i := range lists {
		for k := range i {
			if shareLists(lists[i], lists[k]) {
				t.Errorf("lists %q share memory", lists)
			}
		}
	}
}

func TestMessagesShareNoMemory(t *testing.T) {
	for _, m := range longestMsgs() {
		text := impl.MsgBytes(m)
		if shareTexts(msgTexts(m), []string{text}) {
			t.Errorf("%q shares memory with the request", text)
		}
		got := impl.MsgRead(text).Msg
		wantApart(t, append(msgTexts(got), text), valueLists(got))
	}
	first := impl.Entry{Dn: rdns("cn", "Ann", "ou", "xx"), Attrs: attrs(attr("mail", "A@x", "b@x"), attr("phone", "11"))}
	second := impl.Entry{Dn: rdns("cn", "Bob", "ou", "xx"), Attrs: attrs(attr("mail", "A@x", "b@x"))}
	text := impl.AnswerBytes(answerWith(first, second))
	got := impl.AnswerRead(text).Answer.Entries
	wantEntries(t, "the answer", got, first, second)
	wantApart(t, slices.Concat(textsOf(got[0]), textsOf(got[1]), []string{text}), valueLists(impl.Msg{Attrs: slices.Concat(got[0].Attrs, got[1].Attrs)}))
	if shareEntries(got[0], got[1]) {
		t.Errorf("the entries %q share memory", got)
	}
}

func TestRequestsAreNotChanged(t *testing.T) {
	for _, m := range append(longestMsgs(), request(impl.MsAdd), request(impl.MsModify)) {
		e := roomy(impl.Entry{Attrs: m.Attrs})
		changes := append(make([]impl.Mod, 0, 20), m.Mods...)
		for i := range changes {
			changes[i].Values = append(make([]string, 0, 10), changes[i].Values...)
		}
		given := edited(m, func(m *impl.Msg) { m.Attrs, m.Mods = e.Attrs, changes })
		impl.MsgRight(given)
		impl.MsgBytes(given)
		if !equalMsg(given, m) || !untouched(e, impl.Entry{Attrs: m.Attrs}) {
			t.Errorf("a request was changed to %+v", given)
		}
		for _, one := range changes[:cap(changes)] {
			if one.Kind == 0 && !equalMod(one, impl.Mod{}) || strings.Join(one.Values[len(one.Values):cap(one.Values)], "") != "" {
				t.Errorf("the room behind the modifications was changed to %+v", one)
			}
		}
	}
}

func TestAnswersAreNotChanged(t *testing.T) {
	kept := widestEntry()
	a := answerWith(append(make([]impl.Entry, 0, 5), roomy(kept))...)
	impl.AnswerRight(a)
	impl.AnswerBytes(a)
	if !untouched(a.Entries[0], kept) || !equalEntry(a.Entries[:2][1], impl.Entry{}) {
		t.Errorf("an answer was changed to %+v", a)
	}
}
