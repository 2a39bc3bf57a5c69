package tests

import (
	"encoding/asn1"
	"math"
	"slices"
	"strings"
	"testing"

	"loop.example/g00402/impl"
)

func msgKinds() []int64 {
	return []int64{impl.MsBind, impl.MsSearch, impl.MsAdd, impl.MsDelete, impl.MsModify, impl.MsMove, impl.MsCompare}
}

func noMsgKinds() []int64 {
	return []int64{0, 8, -1, 9, -7, 48, 256 + impl.MsBind, 1<<32 + impl.MsSearch, math.MaxInt64, math.MinInt64}
}

// request returns a short valid request of a kind.
func request(kind int64) impl.Msg {
	m := impl.Msg{Id: 1, Kind: kind, Dn: "cn=x"}
	switch kind {
	case impl.MsBind:
		m.Value = "7"
	case impl.MsSearch:
		m.Scope, m.Size, m.Filter = impl.ScAll, 3, "(cn=*)"
	case impl.MsAdd:
		m.Attrs = attrs(attr("cn", "x"), attr("mail", "a", "b"))
	case impl.MsModify:
		m.Mods = mods(mod(impl.MdAdd, "mail", "b", "A"), mod(impl.MdSet, "phone"))
	case impl.MsMove:
		m.Rdn, m.Parent = "cn=y", "ou=x"
	case impl.MsCompare:
		m.Attrs = attrs(attr("mail", "a"))
	}
	return m
}

func attrs(all ...impl.Attr) []impl.Attr {
	return all
}

// edited returns a copy of a request with something changed.
func edited(m impl.Msg, edit func(m *impl.Msg)) impl.Msg {
	edit(&m)
	return m
}

func goodIds() []int64 {
	return []int64{1, 2, 127, 128, 255, 256, 32767, 32768, impl.MaxTime - 1, impl.MaxTime}
}

func wrongIds() []int64 {
	return []int64{0, -1, -2, impl.MaxTime + 1, -impl.MaxTime, 1 << 32, 1<<32 + 1, math.MaxInt64, math.MinInt64, math.MinInt64 + 1}
}

// validMsgs returns requests of every kind with every edge that the chapter names.
func validMsgs() []impl.Msg {
	var all []impl.Msg
	for _, kind := range msgKinds() {
		m := request(kind)
		all = append(all, m)
		for _, id := range goodIds() {
			all = append(all, edited(m, func(m *impl.Msg) { m.Id = id }))
		}
		for _, dn := range validDns() {
			if len(dn) > 0 || kind == impl.MsSearch {
				all = append(all, edited(m, func(m *impl.Msg) { m.Dn = dnTextOf(dn) }))
			}
		}
	}
	return slices.Concat(all, validSearches(), validAdds(), validModifies(), validMoves(), validValues(), longestMsgs())
}

func validSearches() []impl.Msg {
	var all []impl.Msg
	for scope := range int64(3) {
		for size := int64(1); size <= 20; size++ {
			all = append(all, edited(request(impl.MsSearch), func(m *impl.Msg) { m.Scope, m.Size = scope, size }))
		}
	}
	for _, f := range validFilters() {
		all = append(all, edited(request(impl.MsSearch), func(m *impl.Msg) { m.Filter = filterTextOf(f) }))
	}
	return all
}

func validAdds() []impl.Msg {
	all := []impl.Msg{
		edited(request(impl.MsAdd), func(m *impl.Msg) { m.Attrs = nil }),
		edited(request(impl.MsAdd), func(m *impl.Msg) { m.Attrs, m.Mods = []impl.Attr{}, []impl.Mod{} }),
		edited(request(impl.MsDelete), func(m *impl.Msg) { m.Attrs, m.Mods = []impl.Attr{}, []impl.Mod{} }),
	}
	for _, e := range validEntries() {
		all = append(all, edited(request(impl.MsAdd), func(m *impl.Msg) { m.Attrs = e.Attrs }))
	}
	return all
}

func validModifies() []impl.Msg {
	var all []impl.Msg
	some := validMods()
	for _, one := range some {
		all = append(all, edited(request(impl.MsModify), func(m *impl.Msg) { m.Mods = mods(one) }))
	}
	for many := 1; many <= 10; many++ {
		all = append(all, edited(request(impl.MsModify), func(m *impl.Msg) { m.Mods = some[:many] }))
	}
	return append(all, edited(request(impl.MsModify), func(m *impl.Msg) { m.Mods = slices.Repeat(some[3:4], 10) }))
}

func validMoves() []impl.Msg {
	var all []impl.Msg
	for _, dn := range validDns() {
		all = append(all, edited(request(impl.MsMove), func(m *impl.Msg) { m.Parent = dnTextOf(dn) }))
		for i := range dn {
			all = append(all, edited(request(impl.MsMove), func(m *impl.Msg) { m.Rdn = dnTextOf(dn[i : i+1]) }))
		}
	}
	return all
}

// validValues returns requests whose edges are those of a value.
func validValues() []impl.Msg {
	var all []impl.Msg
	for _, value := range []string{"x", " x", "x ", " !", "~ ", "a  B", ",=\\*()", strings.Repeat("v", 40), strings.Repeat(" ", 39) + "x"} {
		all = append(all, edited(request(impl.MsBind), func(m *impl.Msg) { m.Value = value }))
		all = append(all, edited(request(impl.MsCompare), func(m *impl.Msg) { m.Attrs = attrs(attr("a23456789_1234567890", value)) }))
	}
	return all
}

// longestMsgs returns, for every kind, the request with the longest encoding.
func longestMsgs() []impl.Msg {
	e := widestEntry()
	wide := impl.Mod{Kind: impl.MdSet, Attr: e.Attrs[0].Name, Values: e.Attrs[0].Values}
	longest := map[int64]impl.Msg{
		impl.MsBind:    {Value: strings.Repeat("v", 40)},
		impl.MsSearch:  {Scope: 2, Size: 20, Filter: filterTextOf(widestFilter())},
		impl.MsAdd:     {Attrs: e.Attrs},
		impl.MsModify:  {Mods: slices.Repeat(mods(wide), 10)},
		impl.MsMove:    {Rdn: dnTextOf(e.Dn[:1]), Parent: dnTextOf(e.Dn)},
		impl.MsCompare: {Attrs: attrs(attr(wide.Attr, wide.Values[0]))},
	}
	var all []impl.Msg
	for _, kind := range msgKinds() {
		m := longest[kind]
		m.Id, m.Kind, m.Dn = impl.MaxTime, kind, dnTextOf(e.Dn)
		all = append(all, m)
	}
	return all
}

// wrongMsgs returns requests that break one rule each in a field that their encoding has.
func wrongMsgs() []impl.Msg {
	var all []impl.Msg
	for _, kind := range msgKinds() {
		m := request(kind)
		for _, id := range wrongIds() {
			all = append(all, edited(m, func(m *impl.Msg) { m.Id = id }))
		}
		for _, dn := range wrongDnTexts() {
			if dn != "" || kind != impl.MsSearch {
				all = append(all, edited(m, func(m *impl.Msg) { m.Dn = dn }))
			}
		}
	}
	return slices.Concat(all, wrongSearches(), wrongAttrLists(), wrongModifies(), wrongMoves())
}

func wrongFilterTexts() []string {
	all := []string{
		"", " ", "x", "cn", "cn=x", "(cn=x", "cn=x)", "((cn=x))", "(cn=x)(cn=y)", "(cn=x) ", " (cn=x)", "(cn= )", "(cn=)", "(=x)", "()", "(cn)",
		"(&)", "(|)", "(!)", "(!(cn=x)(cn=y))", "(Cn=x)", "(cn=(x))", "(cn=a*b)", `(cn=\2A)`, `(cn=\x)`, `(cn=\)`, "(cn>x)", "(cn~=x)", "(cn=\t)",
		"(cn=" + strings.Repeat("v", 41) + ")", strings.Repeat("x", impl.MaxBytes+1),
	}
	for _, f := range [][]impl.Node{wide(impl.FlAnd, 21), wide(impl.FlOr, 30), deep(impl.FlAnd, 6), deep(impl.FlNot, 7)} {
		all = append(all, filterTextOf(f))
	}
	return all
}

func wrongSearches() []impl.Msg {
	var all []impl.Msg
	for _, scope := range noScopes() {
		all = append(all, edited(request(impl.MsSearch), func(m *impl.Msg) { m.Scope = scope }))
	}
	for _, size := range []int64{0, -1, 21, 22, -20, 256 + 1, 1<<32 + 1, math.MaxInt64, math.MinInt64} {
		all = append(all, edited(request(impl.MsSearch), func(m *impl.Msg) { m.Size = size }))
	}
	for _, text := range wrongFilterTexts() {
		all = append(all, edited(request(impl.MsSearch), func(m *impl.Msg) { m.Filter = text }))
	}
	return all
}

// wrongAttrLists returns wrong requests with attributes, and wrong ones with a value.
func wrongAttrLists() []impl.Msg {
	var all []impl.Msg
	for _, e := range invalidEntries() {
		if !impl.EntryRight(person(e.Attrs...)) {
			all = append(all, edited(request(impl.MsAdd), func(m *impl.Msg) { m.Attrs = e.Attrs }))
		}
		if len(e.Attrs) > 0 && !impl.EntryRight(person(e.Attrs[:1]...)) {
			all = append(all, edited(request(impl.MsCompare), func(m *impl.Msg) { m.Attrs = e.Attrs[:1] }))
		}
	}
	for _, list := range [][]impl.Attr{nil, {}, manyAttrs(2), manyAttrs(8), manyAttrs(9), attrs(attr("mail", "a", "b")), attrs(attr("mail", "1", "2", "3", "4")), attrs(attr("mail"))} {
		all = append(all, edited(request(impl.MsCompare), func(m *impl.Msg) { m.Attrs = list }))
	}
	for _, value := range improperValues() {
		all = append(all, edited(request(impl.MsBind), func(m *impl.Msg) { m.Value = value }))
	}
	return all
}

func wrongModifies() []impl.Msg {
	lists := [][]impl.Mod{nil, {}, slices.Repeat(validMods()[:1], 11), slices.Repeat(validMods()[:1], 20), slices.Repeat(validMods()[:1], impl.MaxList+1)}
	for _, wrong := range invalidMods() {
		lists = append(lists, mods(wrong))
	}
	for _, wrong := range mods(impl.Mod{}, mod(4, "mail", "x"), mod(impl.MdAdd, "mail"), mod(impl.MdSet, "mail", "x", "X")) {
		for _, place := range []int{0, 1, 5, 9} {
			lists = append(lists, slices.Insert(slices.Repeat(validMods()[:1], 9), place, wrong))
		}
	}
	var all []impl.Msg
	for _, list := range lists {
		all = append(all, edited(request(impl.MsModify), func(m *impl.Msg) { m.Mods = list }))
	}
	return all
}

func wrongMoves() []impl.Msg {
	all := []impl.Msg{edited(request(impl.MsMove), func(m *impl.Msg) { m.Rdn = "cn=y,ou=x" })}
	for _, text := range wrongDnTexts() {
		all = append(all, edited(request(impl.MsMove), func(m *impl.Msg) { m.Rdn = text }))
		if text != "" {
			all = append(all, edited(request(impl.MsMove), func(m *impl.Msg) { m.Parent = text }))
		}
	}
	for _, dn := range validDns() {
		if len(dn) != 1 {
			all = append(all, edited(request(impl.MsMove), func(m *impl.Msg) { m.Rdn = dnTextOf(dn) }))
		}
	}
	return all
}

// fieldEdits returns, for every field but Id, Kind and Dn, what makes it different from zero.
func fieldEdits() map[string][]func(m *impl.Msg) {
	var values, filters, roots, scopes, sizes, lists, changes, rdns []func(m *impl.Msg)
	for _, text := range []string{"7", " ", "cn=y", "(cn=*)", "\x00", strings.Repeat("v", impl.MaxBytes+1)} {
		values = append(values, func(m *impl.Msg) { m.Value = text })
		filters = append(filters, func(m *impl.Msg) { m.Filter = text })
		rdns = append(rdns, func(m *impl.Msg) { m.Rdn = text })
		roots = append(roots, func(m *impl.Msg) { m.Parent = text })
	}
	for _, n := range []int64{1, 2, -1, 20, 1 << 32, math.MinInt64} {
		scopes = append(scopes, func(m *impl.Msg) { m.Scope = n })
		sizes = append(sizes, func(m *impl.Msg) { m.Size = n })
	}
	for _, many := range []int{1, 2, 10, impl.MaxList + 1} {
		lists = append(lists, func(m *impl.Msg) { m.Attrs = manyAttrs(many) }, func(m *impl.Msg) { m.Attrs = make([]impl.Attr, many) })
		changes = append(changes, func(m *impl.Msg) { m.Mods = slices.Repeat(validMods()[:1], many) }, func(m *impl.Msg) { m.Mods = make([]impl.Mod, many) })
	}
	return map[string][]func(m *impl.Msg){
		"Value": values, "Scope": scopes, "Filter": filters, "Size": sizes, "Attrs": lists, "Mods": changes, "Rdn": rdns, "Parent": roots,
	}
}

// ownFields returns the fields of a kind, as the chapter names them.
func ownFields(kind int64) []string {
	return map[int64][]string{
		impl.MsBind: {"Value"}, impl.MsSearch: {"Scope", "Filter", "Size"}, impl.MsAdd: {"Attrs"},
		impl.MsModify: {"Mods"}, impl.MsMove: {"Rdn", "Parent"}, impl.MsCompare: {"Attrs"},
	}[kind]
}

// strayMsgs returns requests that are wrong only by a field of another kind.
func strayMsgs() []impl.Msg {
	var all []impl.Msg
	for _, kind := range msgKinds() {
		for name, edits := range fieldEdits() {
			if slices.Contains(ownFields(kind), name) {
				continue
			}
			for _, edit := range edits {
				all = append(all, edited(request(kind), edit))
			}
		}
	}
	return all
}

// kindlessMsgs returns requests that are wrong by their kind.
func kindlessMsgs() []impl.Msg {
	all := []impl.Msg{{}}
	for _, wrong := range noMsgKinds() {
		all = append(all, impl.Msg{Id: 1, Kind: wrong}, impl.Msg{Id: 1, Kind: wrong, Dn: "cn=x"})
		for _, kind := range msgKinds() {
			all = append(all, edited(request(kind), func(m *impl.Msg) { m.Kind = wrong }))
		}
	}
	for _, kind := range msgKinds() {
		for _, other := range msgKinds() {
			if len(ownFields(kind)) > 0 && !slices.Equal(ownFields(kind), ownFields(other)) {
				all = append(all, edited(request(kind), func(m *impl.Msg) { m.Kind = other }))
			}
		}
	}
	return all
}

func invalidMsgs() []impl.Msg {
	return slices.Concat(wrongMsgs(), strayMsgs(), kindlessMsgs())
}

func equalMod(a impl.Mod, b impl.Mod) bool {
	return a.Kind == b.Kind && a.Attr == b.Attr && slices.Equal(a.Values, b.Values)
}

func equalMsg(a impl.Msg, b impl.Msg) bool {
	if a.Id != b.Id || a.Kind != b.Kind || a.Dn != b.Dn || a.Value != b.Value || a.Scope != b.Scope || a.Filter != b.Filter {
		return false
	}
	if a.Size != b.Size || a.Rdn != b.Rdn || a.Parent != b.Parent {
		return false
	}
	return slices.EqualFunc(a.Attrs, b.Attrs, equalAttr) && slices.EqualFunc(a.Mods, b.Mods, equalMod)
}

func wantMsg(t *testing.T, text string, got impl.MsgOut, want impl.Msg, code int64) {
	t.Helper()
	if !equalMsg(got.Msg, want) || got.Code != code {
		t.Errorf("the request of %.900q is %+v with code %d, want %+v with code %d", text, got.Msg, got.Code, want, code)
	}
}

func wantMsgCode(t *testing.T, text string, code int64) {
	t.Helper()
	wantMsg(t, text, impl.MsgRead(text), impl.Msg{}, code)
}

// tlv returns the element with the concatenation of the parts as its body.
func tlv(tag int64, parts ...string) string {
	return tlvBytes(tag, strings.Join(parts, ""))
}

func tlvInt(tag int64, n int64) string {
	text, err := asn1.Marshal(n)
	if err != nil {
		panic(err)
	}
	return string([]byte{byte(tag)}) + string(text[1:])
}

// attrTlv and the next ones are the rules for encodings, without the check that anything is valid.
func attrTlv(name string, values []string) string {
	list := ""
	for _, value := range values {
		list += tlv(4, value)
	}
	return tlv(48, tlv(4, name), tlv(49, list))
}

func attrsTlv(list []impl.Attr) string {
	all := ""
	for _, a := range list {
		all += attrTlv(a.Name, a.Values)
	}
	return all
}

func modsTlv(list []impl.Mod) string {
	all := ""
	for _, m := range list {
		all += tlv(48, tlvInt(10, m.Kind-1), attrTlv(m.Attr, m.Values))
	}
	return all
}

func requestTlv(m impl.Msg) string {
	dn := tlv(4, m.Dn)
	switch m.Kind {
	case impl.MsBind:
		return tlv(96, tlvInt(2, 3), dn, tlv(128, m.Value))
	case impl.MsSearch:
		return tlv(99, dn, tlvInt(10, m.Scope), tlvInt(2, m.Size), tlv(4, m.Filter))
	case impl.MsAdd:
		return tlv(104, dn, tlv(48, attrsTlv(m.Attrs)))
	case impl.MsDelete:
		return tlv(74, m.Dn)
	case impl.MsModify:
		return tlv(102, dn, tlv(48, modsTlv(m.Mods)))
	case impl.MsMove:
		return tlv(108, dn, tlv(4, m.Rdn), tlv(128, m.Parent))
	}
	return tlv(110, dn, attrsTlv(m.Attrs))
}

func msgTlv(m impl.Msg) string {
	return tlv(48, tlvInt(2, m.Id), requestTlv(m))
}

func TestChapter11Example(t *testing.T) {
	m := impl.Msg{Id: 5, Kind: impl.MsDelete, Dn: "cn=x"}
	text := "\x30\x09\x02\x01\x05\x4a\x04cn=x"
	if got := impl.MsgBytes(m); got != text {
		t.Errorf("the encoding is %x, want %x", got, text)
	}
	wantMsg(t, text, impl.MsgRead(text), m, impl.OK)
}

func TestMsgConstants(t *testing.T) {
	if !slices.Equal(msgKinds(), []int64{1, 2, 3, 4, 5, 6, 7}) {
		t.Errorf("the kinds are %v", msgKinds())
	}
}

func TestMsgRight(t *testing.T) {
	for _, m := range validMsgs() {
		if !impl.MsgRight(m) {
			t.Errorf("%+v is not valid", m)
		}
	}
	for _, m := range invalidMsgs() {
		if impl.MsgRight(m) {
			t.Errorf("%+v is valid", m)
		}
	}
}

// A field that one kind names is zero in all others.
func TestStrayFields(t *testing.T) {
	strays := make(map[int64]int)
	for _, m := range strayMsgs() {
		strays[m.Kind]++
		if impl.MsgRight(m) || impl.MsgBytes(m) != "" {
			t.Errorf("%+v is valid", m)
		}
	}
	for _, kind := range msgKinds() {
		if strays[kind] < 25 {
			t.Errorf("kind %d has %d stray fields", kind, strays[kind])
		}
	}
}

func TestRootIsOnlySearched(t *testing.T) {
	for _, kind := range msgKinds() {
		m := edited(request(kind), func(m *impl.Msg) { m.Dn = "" })
		if got := impl.MsgRight(m); got != (kind == impl.MsSearch) {
			t.Errorf("with the root, %+v is valid: %t", m, got)
		}
	}
}

func TestMsgBytesOfEachKind(t *testing.T) {
	search := impl.Msg{Id: 300, Kind: impl.MsSearch, Dn: "ou=x", Scope: 2, Size: 20, Filter: "(cn=*)"}
	for _, c := range []struct {
		m    impl.Msg
		want string
	}{
		{request(impl.MsBind), "\x30\x11\x02\x01\x01\x60\x0c\x02\x01\x03\x04\x04cn=x\x80\x017"},
		{search, "\x30\x1a\x02\x02\x01\x2c\x63\x14\x04\x04ou=x\x0a\x01\x02\x02\x01\x14\x04\x06(cn=*)"},
		{
			request(impl.MsAdd), "\x30\x28\x02\x01\x01\x68\x23\x04\x04cn=x\x30\x1b" +
				"\x30\x09\x04\x02cn\x31\x03\x04\x01x" + "\x30\x0e\x04\x04mail\x31\x06\x04\x01a\x04\x01b",
		},
		{request(impl.MsDelete), "\x30\x09\x02\x01\x01\x4a\x04cn=x"},
		{
			request(impl.MsModify), "\x30\x32\x02\x01\x01\x66\x2d\x04\x04cn=x\x30\x25" +
				"\x30\x13\x0a\x01\x00\x30\x0e\x04\x04mail\x31\x06\x04\x01b\x04\x01A" + "\x30\x0e\x0a\x01\x02\x30\x09\x04\x05phone\x31\x00",
		},
		{request(impl.MsMove), "\x30\x17\x02\x01\x01\x6c\x12\x04\x04cn=x\x04\x04cn=y\x80\x04ou=x"},
		{request(impl.MsCompare), "\x30\x18\x02\x01\x01\x6e\x13\x04\x04cn=x\x30\x0b\x04\x04mail\x31\x03\x04\x01a"},
		{impl.Msg{Id: 128, Kind: impl.MsAdd, Dn: "cn=x"}, "\x30\x0e\x02\x02\x00\x80\x68\x08\x04\x04cn=x\x30\x00"},
		{impl.Msg{Id: impl.MaxTime, Kind: impl.MsSearch, Size: 1, Filter: "(a=b)"}, "\x30\x16\x02\x03\x0f\x42\x40\x63\x0f\x04\x00\x0a\x01\x00\x02\x01\x01\x04\x05(a=b)"},
	} {
		if got := impl.MsgBytes(c.m); got != c.want {
			t.Errorf("the encoding of %+v is %q, want %q", c.m, got, c.want)
		}
		wantMsg(t, c.want, impl.MsgRead(c.want), c.m, impl.OK)
	}
}

func TestMsgBytesByTheRule(t *testing.T) {
	for _, m := range validMsgs() {
		if got, want := impl.MsgBytes(m), msgTlv(m); got != want || want == "" {
			t.Errorf("the encoding of %+v is %q, want %q", m, got, want)
		}
	}
	for _, m := range invalidMsgs() {
		if got := impl.MsgBytes(m); got != "" {
			t.Errorf("the encoding of %+v is %.900q", m, got)
		}
	}
}

// Promise 21.
func TestRequestIsDecodedFromItsEncoding(t *testing.T) {
	decoded := make(map[int64]int)
	for _, m := range validMsgs() {
		text := impl.MsgBytes(m)
		wantMsg(t, text, impl.MsgRead(text), m, impl.OK)
		decoded[m.Kind]++
	}
	for _, kind := range msgKinds() {
		if decoded[kind] < 100 {
			t.Errorf("%d requests of kind %d were decoded", decoded[kind], kind)
		}
	}
}

// No valid request has an element that is too long: the longest of every kind stays far below 4000 bytes.
func TestLongestRequests(t *testing.T) {
	for _, m := range longestMsgs() {
		text := impl.MsgBytes(m)
		if text == "" || len(text) > 3500 {
			t.Errorf("the longest request of kind %d has %d bytes", m.Kind, len(text))
		}
		wantMsg(t, text, impl.MsgRead(text), m, impl.OK)
	}
}
