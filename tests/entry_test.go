package tests

import (
	"slices"
	"strconv"
	"strings"
	"testing"
	"unsafe"

	"loop.example/g00402/impl"
)

// attr returns an attribute with the values as they are given.
func attr(name string, values ...string) impl.Attr {
	return impl.Attr{Name: name, Values: values}
}

// person returns an entry with a valid DN and the attributes as they are given.
func person(attrs ...impl.Attr) impl.Entry {
	return impl.Entry{Dn: rdns("cn", "Ann", "ou", "x"), Attrs: attrs}
}

// manyAttrs returns attributes a to y, za to zy, zza and so on, of one value each.
func manyAttrs(many int) []impl.Attr {
	var attrs []impl.Attr
	for i := range many {
		name := strings.Repeat("z", i/25) + string([]byte{'a' + byte(i%25)})
		attrs = append(attrs, attr(name, "v"+strconv.Itoa(i)))
	}
	return attrs
}

// widestEntry has the longest encoding of all valid entries.
func widestEntry() impl.Entry {
	var e impl.Entry
	for range impl.MaxRdns {
		e.Dn = append(e.Dn, impl.Rdn{Attr: "a23456789_1234567890", Value: strings.Repeat(",", 40)})
	}
	for i := range impl.MaxAttrs {
		wide := impl.Attr{Name: "a23456789_123456789" + strconv.Itoa(i)}
		for k := range impl.MaxValues {
			wide.Values = append(wide.Values, strings.Repeat("v", 39)+strconv.Itoa(k))
		}
		e.Attrs = append(e.Attrs, wide)
	}
	return e
}

// validEntries returns entries with every edge that the chapter names.
func validEntries() []impl.Entry {
	all := []impl.Entry{
		person(),
		person(attr("mail", "b@x")),
		person(attr("mail", "A@x", "b@x")),
		person(attr("mail", "1", "2", "3", "4")),
		person(attr("mail", "B@X"), attr("phone", "1", "2", "3", "4")),
		person(attr("a", "x"), attr("a1", "x"), attr("a_", "x"), attr("aa", "x"), attr("b", "x")),
		person(attr("mail", "a", " A B", "ab")),
		person(attr("mail", " !", "~ ")),
		person(attr("mail", strings.Repeat(" ", 39)+"x", "y"+strings.Repeat(" ", 39))),
		person(attr("a23456789_1234567890", strings.Repeat("v", 40))),
		{Dn: rdns("cn", "A,b", "ou", " x"), Attrs: []impl.Attr{attr("cn", "A,b")}},
		{Dn: chain(6)},
		widestEntry(),
	}
	for many := range impl.MaxAttrs + 1 {
		all = append(all, person(manyAttrs(many)...))
	}
	return all
}

// improperValues returns strings that are no proper values; an attribute with one is not valid.
func improperValues() []string {
	return []string{
		"", " ", strings.Repeat(" ", 40), strings.Repeat("v", 41), strings.Repeat("v", 100),
		strings.Repeat(" ", 40) + "v", "a\tb", "\n", "a\x00", "\x1f", "\x7f", "\u00e9", "a\xff",
	}
}

// noNames returns strings that are no names.
func noNames() []string {
	return []string{"", " ", "Mail", "mAil", "1a", "_a", "a-b", "ma il", "mail ", "a\x00", "a\u00e9", "a23456789_12345678901"}
}

// invalidEntries returns entries that break one rule each.
func invalidEntries() []impl.Entry {
	all := []impl.Entry{
		{},
		{Attrs: manyAttrs(1)},
		{Dn: []impl.Rdn{}, Attrs: manyAttrs(1)},
		{Dn: chain(7)},
		{Dn: rdns("cn", " ")},
		{Dn: rdns("Cn", "x"), Attrs: manyAttrs(2)},
		person(manyAttrs(9)...),
		person(manyAttrs(impl.MaxList + 1)...),
		person(attr("b", "x"), attr("a", "x")),
		person(attr("a", "x"), attr("c", "x"), attr("b", "x")),
		person(attr("a", "x"), attr("a", "x")),
		person(attr("a", "x"), attr("a", "y")),
		person(attr("aa", "x"), attr("a", "y")),
		person(attr("mail")),
		person(impl.Attr{Name: "mail", Values: []string{}}),
		person(attr("cn", "x"), attr("mail")),
		person(attr("mail"), attr("phone", "x")),
		person(attr("mail", "1", "2", "3", "4", "5")),
		person(attr("mail", "x", "x")),
		person(attr("mail", "x", "X")),
		person(attr("mail", "a b", " A  B ")),
		person(attr("mail", "a", "b", "b", "c")),
		person(attr("mail", "b", "a")),
		person(attr("mail", "a", "c", "b")),
		person(attr("mail", "ab", "a")),
		person(attr("mail", "b", "A")),
		person(attr("mail", "_", "Z", "_a")),
	}
	for _, name := range noNames() {
		all = append(all, person(attr(name, "x")))
	}
	for _, value := range improperValues() {
		all = append(all, person(attr("mail", value)), person(attr("cn", "x"), attr("mail", "!", value)))
	}
	return all
}

func equalAttr(a impl.Attr, b impl.Attr) bool {
	return a.Name == b.Name && slices.Equal(a.Values, b.Values)
}

// equalEntry compares byte by byte, unlike EntrySame.
func equalEntry(a impl.Entry, b impl.Entry) bool {
	return slices.Equal(a.Dn, b.Dn) && slices.EqualFunc(a.Attrs, b.Attrs, equalAttr)
}

func wantEntry(t *testing.T, what string, got impl.EntryOut, e impl.Entry, code int64) {
	t.Helper()
	if !equalEntry(got.Entry, e) || got.Code != code {
		t.Errorf("%s is %.300q with code %d, want %.300q with code %d", what, got.Entry, got.Code, e, code)
	}
}

func wantEntryCode(t *testing.T, what string, got impl.EntryOut, code int64) {
	t.Helper()
	wantEntry(t, what, got, impl.Entry{}, code)
}

func wantValues(t *testing.T, what string, got []string, want ...string) {
	t.Helper()
	if !slices.Equal(got, want) {
		t.Errorf("%s are %q, want %q", what, got, want)
	}
}

// attrNamed returns the attribute of this name, or one without values.
func attrNamed(e impl.Entry, name string) impl.Attr {
	for _, a := range e.Attrs {
		if a.Name == name {
			return a
		}
	}
	return impl.Attr{Name: name}
}

// without returns all attributes but the one of this name.
func without(e impl.Entry, name string) []impl.Attr {
	return slices.DeleteFunc(slices.Clone(e.Attrs), func(a impl.Attr) bool { return a.Name == name })
}

// holds reports whether one of the values has the same normalized form.
func holds(values []string, value string) bool {
	return slices.ContainsFunc(values, func(v string) bool { return impl.Norm(v) == impl.Norm(value) })
}

func TestChapter4Example(t *testing.T) {
	if impl.MaxAttrs != 8 || impl.MaxValues != 4 {
		t.Errorf("the limits are %d and %d", impl.MaxAttrs, impl.MaxValues)
	}
	e := impl.ValueAdd(person(), "mail", "b@x").Entry
	e = impl.ValueAdd(e, "mail", "A@x").Entry
	wantEntry(t, "the entry", impl.EntryOut{Entry: e}, person(attr("mail", "A@x", "b@x")), impl.OK)
	wantValues(t, "its mails", impl.AttrOf(e, "mail"), "A@x", "b@x")
	if !impl.HasValue(e, "mail", "B@X") {
		t.Error("the entry does not have B@X")
	}
	wantEntryCode(t, "adding a@x", impl.ValueAdd(e, "mail", "a@x"), impl.ErrThere)
}

func TestEntryRight(t *testing.T) {
	for _, e := range validEntries() {
		if !impl.EntryRight(e) {
			t.Errorf("%q is not valid", e)
		}
	}
	for _, e := range invalidEntries() {
		if impl.EntryRight(e) {
			t.Errorf("%.300q is valid", e)
		}
	}
}

func TestAttrOf(t *testing.T) {
	for _, e := range validEntries() {
		for _, a := range e.Attrs {
			wantValues(t, "the values of "+a.Name, impl.AttrOf(e, a.Name), a.Values...)
		}
		for _, name := range append(noNames(), "none", "mai", "mail2", "z", strings.Repeat("a", impl.MaxBytes+1)) {
			wantValues(t, "the values of "+name[:min(30, len(name))], impl.AttrOf(e, name))
		}
	}
	for _, e := range invalidEntries() {
		for _, a := range e.Attrs {
			wantValues(t, "the values of "+a.Name+" of an invalid entry", impl.AttrOf(e, a.Name))
		}
	}
	wantValues(t, "the values of an attribute without other faults", impl.AttrOf(impl.Entry{Attrs: manyAttrs(1)}, "a"))
}

func TestHasValue(t *testing.T) {
	e := person(attr("cn", "Ann  Lee"), attr("mail", "A@x", "b@x"))
	for _, c := range []struct {
		name  string
		value string
		want  bool
	}{
		{"mail", "A@x", true},
		{"mail", "a@X", true},
		{"mail", "  b@x ", true},
		{"mail", "c@x", false},
		{"mail", "A@", false},
		{"mail", "A@xx", false},
		{"mail", "", false},
		{"mail", " ", false},
		{"mail", "a@x\n", false},
		{"cn", "ann lee", true},
		{"cn", "annlee", false},
		{"cn", "A@x", false},
		{"phone", "A@x", false},
		{"phone", "", false},
		{"Mail", "A@x", false},
		{"", "", false},
		// Only the normalized form counts here, so a string too long for a value is found.
		{"mail", strings.Repeat(" ", 97) + "a@x", true},
		{"mail", strings.Repeat(" ", 98) + "a@x", false},
		{"mail", strings.Repeat("a", impl.MaxBytes+1), false},
		{strings.Repeat("a", impl.MaxBytes+1), "a@x", false},
	} {
		if got := impl.HasValue(e, c.name, c.value); got != c.want {
			t.Errorf("HasValue of %.30q and %.120q is %t", c.name, c.value, got)
		}
	}
	for _, e := range invalidEntries() {
		for _, a := range e.Attrs {
			for _, value := range a.Values {
				if impl.HasValue(e, a.Name, value) {
					t.Errorf("invalid %.300q has %q", e, value)
				}
			}
		}
	}
}

// someValues returns proper values before, between, behind and beside those of the valid entries.
func someValues() []string {
	return []string{"!", "a@x", "A@Y", "b@X", " B  @ x ", "zz", "~~", "2", " v1", strings.Repeat("W", 40)}
}

var someNames = []string{"a", "a1", "mail", "phone", "cn", "zz", "a23456789_1234567890"}

// Promise 7.
func TestAddedValueIsThereUntilItIsDropped(t *testing.T) {
	added := 0
	for _, e := range validEntries() {
		for _, name := range someNames {
			for _, value := range someValues() {
				old := attrNamed(e, name).Values
				got := impl.ValueAdd(e, name, value)
				switch {
				case holds(old, value):
					wantEntryCode(t, "adding a value again", got, impl.ErrThere)
					continue
				case len(old) == impl.MaxValues || len(old) == 0 && len(e.Attrs) == impl.MaxAttrs:
					wantEntryCode(t, "adding a value too many", got, impl.ErrFull)
					continue
				}
				added++
				checkAdded(t, e, name, value, got)
			}
		}
	}
	if added < 300 {
		t.Errorf("only %d values were added", added)
	}
}

func checkAdded(t *testing.T, e impl.Entry, name string, value string, got impl.EntryOut) {
	t.Helper()
	if got.Code != impl.OK || !impl.EntryRight(got.Entry) || !impl.HasValue(got.Entry, name, value) {
		t.Errorf("adding %q to %s of %q gives %q with code %d", value, name, e, got.Entry, got.Code)
	}
	values := impl.AttrOf(got.Entry, name)
	if !slices.Contains(values, value) || len(values) != len(attrNamed(e, name).Values)+1 {
		t.Errorf("adding %q to %s of %q gives the values %q", value, name, e, values)
	}
	if !slices.EqualFunc(without(got.Entry, name), without(e, name), equalAttr) {
		t.Errorf("adding to %s of %q changes other attributes: %q", name, e, got.Entry)
	}
	wantEntry(t, "the entry without the value", impl.ValueDrop(got.Entry, name, value), e, impl.OK)
	other := "  " + strings.ToUpper(strings.TrimSpace(value))
	if len(other) <= 40 {
		wantEntry(t, "the entry without the value in capitals", impl.ValueDrop(got.Entry, name, other), e, impl.OK)
	}
}

// Promise 7, the other way round.
func TestDroppedValueIsGoneUntilItIsAdded(t *testing.T) {
	for _, e := range validEntries() {
		for _, a := range e.Attrs {
			for i, value := range a.Values {
				got := impl.ValueDrop(e, a.Name, value)
				if got.Code != impl.OK || !impl.EntryRight(got.Entry) || impl.HasValue(got.Entry, a.Name, value) {
					t.Errorf("dropping %q of %q gives %q with code %d", value, e, got.Entry, got.Code)
				}
				wantValues(t, "the other values", impl.AttrOf(got.Entry, a.Name), slices.Delete(slices.Clone(a.Values), i, i+1)...)
				wantEntryCode(t, "dropping it again", impl.ValueDrop(got.Entry, a.Name, value), impl.ErrNone)
				wantEntry(t, "the entry with the value again", impl.ValueAdd(got.Entry, a.Name, value), e, impl.OK)
			}
		}
	}
}

func TestValueAddResults(t *testing.T) {
	e := person(attr("cn", "Ann"), attr("mail", "b", "D"))
	for _, c := range []struct {
		name  string
		value string
		want  impl.Entry
	}{
		{"mail", "A", person(attr("cn", "Ann"), attr("mail", "A", "b", "D"))},
		{"mail", " C", person(attr("cn", "Ann"), attr("mail", "b", " C", "D"))},
		{"mail", "e", person(attr("cn", "Ann"), attr("mail", "b", "D", "e"))},
		{"cn", "Ann ~", person(attr("cn", "Ann", "Ann ~"), attr("mail", "b", "D"))},
		{"a", "B", person(attr("a", "B"), attr("cn", "Ann"), attr("mail", "b", "D"))},
		{"d", "b", person(attr("cn", "Ann"), attr("d", "b"), attr("mail", "b", "D"))},
		{"mail2", "b", person(attr("cn", "Ann"), attr("mail", "b", "D"), attr("mail2", "b"))},
	} {
		wantEntry(t, "the entry with "+c.name+" "+c.value, impl.ValueAdd(e, c.name, c.value), c.want, impl.OK)
	}
	wantEntry(t, "the entry with an eighth attribute", impl.ValueAdd(person(manyAttrs(7)...), "h", "v7"), person(manyAttrs(8)...), impl.OK)
}

func TestValueAddErrors(t *testing.T) {
	four := person(attr("mail", "1", "2", "3", "4"))
	full := person(manyAttrs(8)...)
	wantEntryCode(t, "a fifth value", impl.ValueAdd(four, "mail", "5"), impl.ErrFull)
	wantEntryCode(t, "one of four again", impl.ValueAdd(four, "mail", " 4"), impl.ErrThere)
	wantEntry(t, "another attribute beside four values", impl.ValueAdd(four, "n", "5"), person(attr("mail", "1", "2", "3", "4"), attr("n", "5")), impl.OK)
	wantEntryCode(t, "a ninth attribute", impl.ValueAdd(full, "i", "x"), impl.ErrFull)
	wantEntryCode(t, "a value of a full entry again", impl.ValueAdd(full, "h", "V7"), impl.ErrThere)
	eight := person(append(manyAttrs(7), attr("h", "v7", "w"))...)
	wantEntry(t, "another value of a full entry", impl.ValueAdd(full, "h", "w"), eight, impl.OK)
}

// Errors that ValueAdd and ValueDrop have in common.
func TestValueForms(t *testing.T) {
	long := strings.Repeat("a", impl.MaxBytes+1)
	longest := strings.Repeat("a", impl.MaxBytes)
	for what, call := range map[string]func(impl.Entry, string, string) impl.EntryOut{"adding": impl.ValueAdd, "dropping": impl.ValueDrop} {
		four := person(attr("mail", "1", "2", "3", "4"))
		for _, e := range append(invalidEntries(), four) {
			wantEntryCode(t, what+" a long value", call(e, "mail", long), impl.ErrSize)
			wantEntryCode(t, what+" to a long name", call(e, long, "x"), impl.ErrSize)
			wantEntryCode(t, what+" with two long arguments", call(e, long, long), impl.ErrSize)
			wantEntryCode(t, what+" a value at the limit", call(e, "mail", longest), impl.ErrForm)
			wantEntryCode(t, what+" to a name at the limit", call(e, longest, "x"), impl.ErrForm)
		}
		for _, e := range invalidEntries() {
			wantEntryCode(t, what+" in an invalid entry", call(e, "mail", "x"), impl.ErrForm)
			wantEntryCode(t, what+" in an invalid entry", call(e, "zz", "x"), impl.ErrForm)
			for _, a := range e.Attrs {
				wantEntryCode(t, what+" in an invalid entry", call(e, a.Name, strings.Join(a.Values, "")), impl.ErrForm)
			}
		}
		for _, name := range noNames() {
			wantEntryCode(t, what+" to no name", call(four, name, "x"), impl.ErrForm)
			wantEntryCode(t, what+" to no name of a full entry", call(person(manyAttrs(8)...), name, "x"), impl.ErrForm)
		}
		for _, value := range improperValues() {
			wantEntryCode(t, what+" an improper value", call(four, "mail", value), impl.ErrForm)
			wantEntryCode(t, what+" an improper value", call(person(), "mail", value), impl.ErrForm)
		}
	}
	// A string with the right normalized form is still no value if it is too long.
	wantEntryCode(t, "dropping a long form", impl.ValueDrop(person(attr("mail", "x")), "mail", strings.Repeat(" ", 40)+"x"), impl.ErrForm)
}

func TestValueDropResults(t *testing.T) {
	e := person(attr("cn", "Ann"), attr("mail", "a", "B", "c"), attr("phone", "1"))
	for _, c := range []struct {
		name  string
		value string
		want  impl.Entry
	}{
		{"mail", "A", person(attr("cn", "Ann"), attr("mail", "B", "c"), attr("phone", "1"))},
		{"mail", " b ", person(attr("cn", "Ann"), attr("mail", "a", "c"), attr("phone", "1"))},
		{"mail", "c", person(attr("cn", "Ann"), attr("mail", "a", "B"), attr("phone", "1"))},
		{"cn", "ANN", person(attr("mail", "a", "B", "c"), attr("phone", "1"))},
		{"phone", "1", person(attr("cn", "Ann"), attr("mail", "a", "B", "c"))},
	} {
		wantEntry(t, "the entry without "+c.name+" "+c.value, impl.ValueDrop(e, c.name, c.value), c.want, impl.OK)
	}
	wantEntryCode(t, "dropping no value", impl.ValueDrop(e, "mail", "d"), impl.ErrNone)
	wantEntryCode(t, "dropping a part of a value", impl.ValueDrop(e, "cn", "An"), impl.ErrNone)
	wantEntryCode(t, "dropping a value of another attribute", impl.ValueDrop(e, "phone", "a"), impl.ErrNone)
	wantEntryCode(t, "dropping of no attribute", impl.ValueDrop(e, "sn", "a"), impl.ErrNone)
	wantEntryCode(t, "dropping of no attributes", impl.ValueDrop(person(), "mail", "a"), impl.ErrNone)
	wantEntry(t, "the entry without its only value", impl.ValueDrop(person(attr("mail", "a")), "mail", "A"), person(), impl.OK)
}

// Promise 8.
func TestSetAttributeHasExactlyTheseValues(t *testing.T) {
	lists := [][]string{
		nil, {}, {"x"}, {"B@x", "a@x"}, {"c", " b", "A"}, {"4", "3", "2", "1"}, {"1", "2", "3", "4"}, {"b", "D", "a", "C"},
		{strings.Repeat("v", 40), "V"}, {"_", "Z", "^"},
	}
	for _, e := range validEntries() {
		for _, name := range someNames {
			for _, values := range lists {
				got := impl.AttrSet(e, name, values)
				if len(values) > 0 && len(attrNamed(e, name).Values) == 0 && len(e.Attrs) == impl.MaxAttrs {
					wantEntryCode(t, "setting an attribute too many", got, impl.ErrFull)
					continue
				}
				checkSet(t, e, name, values, got)
			}
		}
	}
}

func checkSet(t *testing.T, e impl.Entry, name string, values []string, got impl.EntryOut) {
	t.Helper()
	if got.Code != impl.OK || !impl.EntryRight(got.Entry) || !slices.Equal(got.Entry.Dn, e.Dn) {
		t.Errorf("setting %s of %q to %q gives %q with code %d", name, e, values, got.Entry, got.Code)
	}
	want := slices.Clone(values)
	slices.SortFunc(want, func(a string, b string) int { return strings.Compare(impl.Norm(a), impl.Norm(b)) })
	wantValues(t, "the set values", impl.AttrOf(got.Entry, name), want...)
	if !slices.EqualFunc(without(got.Entry, name), without(e, name), equalAttr) {
		t.Errorf("setting %s of %q changes other attributes: %q", name, e, got.Entry)
	}
	old := attrNamed(e, name).Values
	wantEntry(t, "the entry with the old values", impl.AttrSet(got.Entry, name, old), e, impl.OK)
}

func TestAttrSetResults(t *testing.T) {
	e := person(attr("cn", "Ann"), attr("mail", "b", "D"))
	wantEntry(t, "new values", impl.AttrSet(e, "mail", []string{"z", "C", " a"}), person(attr("cn", "Ann"), attr("mail", " a", "C", "z")), impl.OK)
	wantEntry(t, "the same values in capitals", impl.AttrSet(e, "mail", []string{"d", "B"}), person(attr("cn", "Ann"), attr("mail", "B", "d")), impl.OK)
	wantEntry(t, "a new attribute", impl.AttrSet(e, "d", []string{"y", "x"}), person(attr("cn", "Ann"), attr("d", "x", "y"), attr("mail", "b", "D")), impl.OK)
	wantEntry(t, "no values", impl.AttrSet(e, "cn", nil), person(attr("mail", "b", "D")), impl.OK)
	wantEntry(t, "no values of no attribute", impl.AttrSet(e, "sn", nil), e, impl.OK)
	full := person(manyAttrs(8)...)
	wantEntry(t, "no values of a full entry", impl.AttrSet(full, "h", nil), person(manyAttrs(7)...), impl.OK)
	wantEntry(t, "no values of no attribute of a full entry", impl.AttrSet(full, "i", nil), full, impl.OK)
	wantEntry(t, "values in a full entry", impl.AttrSet(full, "h", []string{"V7"}), person(append(manyAttrs(7), attr("h", "V7"))...), impl.OK)
	wantEntry(t, "the eighth attribute", impl.AttrSet(person(manyAttrs(7)...), "h", []string{"v7"}), full, impl.OK)
	wantEntryCode(t, "a ninth attribute", impl.AttrSet(full, "i", []string{"x"}), impl.ErrFull)
}

func TestAttrSetErrors(t *testing.T) {
	full := person(manyAttrs(8)...)
	long := strings.Repeat("a", impl.MaxBytes+1)
	for _, e := range append(invalidEntries(), full) {
		wantEntryCode(t, "setting 401 values", impl.AttrSet(e, "mail", make([]string, impl.MaxList+1)), impl.ErrSize)
		wantEntryCode(t, "setting a long name", impl.AttrSet(e, long, nil), impl.ErrSize)
		wantEntryCode(t, "setting 400 values", impl.AttrSet(e, "mail", make([]string, impl.MaxList)), impl.ErrForm)
		wantEntryCode(t, "setting a name at the limit", impl.AttrSet(e, long[1:], nil), impl.ErrForm)
		// The limit holds for arguments, not for their elements.
		wantEntryCode(t, "setting a long value", impl.AttrSet(e, "a", []string{long}), impl.ErrForm)
	}
	for _, e := range invalidEntries() {
		wantEntryCode(t, "setting in an invalid entry", impl.AttrSet(e, "mail", []string{"x"}), impl.ErrForm)
		wantEntryCode(t, "setting nothing in an invalid entry", impl.AttrSet(e, "mail", nil), impl.ErrForm)
	}
	for _, name := range noNames() {
		wantEntryCode(t, "setting no name", impl.AttrSet(person(), name, []string{"x"}), impl.ErrForm)
		wantEntryCode(t, "setting no name to nothing", impl.AttrSet(person(), name, nil), impl.ErrForm)
		wantEntryCode(t, "setting no name in a full entry", impl.AttrSet(full, name, []string{"x"}), impl.ErrForm)
	}
	lists := [][]string{
		{"1", "2", "3", "4", "5"}, {"x", "x"}, {"x", "X"}, {"a  b", "c", " A B"}, {"1", "2", "3", "1"}, {"4", "3", "2", "1", "0"},
	}
	for _, value := range improperValues() {
		lists = append(lists, []string{value}, []string{"x", value}, []string{value, "x", "y", "z"})
	}
	for _, values := range lists {
		for _, e := range []impl.Entry{person(), full, person(attr("mail", "x"))} {
			wantEntryCode(t, "setting wrong values", impl.AttrSet(e, "mail", values), impl.ErrForm)
		}
	}
}

func TestEntrySame(t *testing.T) {
	base := person(attr("cn", "Ann Lee"), attr("mail", "A@x", "b@x"))
	other := func(dn []impl.Rdn, attrs ...impl.Attr) impl.Entry { return impl.Entry{Dn: dn, Attrs: attrs} }
	for _, c := range []struct {
		e    impl.Entry
		want bool
	}{
		{base, true},
		{other(rdns("cn", " ANN", "ou", "X "), attr("cn", " ann   LEE "), attr("mail", "a@x", "B@X")), true},
		{other(rdns("cn", "Anna", "ou", "x"), base.Attrs...), false},
		{other(rdns("cn", "Ann"), base.Attrs...), false},
		{other(rdns("sn", "Ann", "ou", "x"), base.Attrs...), false},
		{person(attr("cn", "AnnLee"), attr("mail", "A@x", "b@x")), false},
		{person(attr("cn", "Ann Lee"), attr("mail", "A@x")), false},
		{person(attr("cn", "Ann Lee"), attr("mail", "A@x", "b@x", "c@x")), false},
		{person(attr("cn", "Ann Lee"), attr("mail", "A@x", "c@x")), false},
		{person(attr("cn", "Ann Lee"), attr("mbil", "A@x", "b@x")), false},
		{person(attr("cn", "Ann Lee")), false},
		{person(attr("mail", "A@x", "b@x")), false},
		{person(attr("cn", "Ann Lee"), attr("mail", "A@x", "b@x"), attr("sn", "x")), false},
		{person(), false},
	} {
		if impl.EntrySame(base, c.e) != c.want || impl.EntrySame(c.e, base) != c.want {
			t.Errorf("EntrySame of %q and %q is not %t", base, c.e, c.want)
		}
	}
	all := validEntries()
	for i, a := range all {
		for k, b := range all {
			// manyAttrs(0) makes the first entry once more.
			if want := i == k || equalEntry(a, b); impl.EntrySame(a, b) != want {
				t.Errorf("EntrySame of %q and %q is not %t", a, b, want)
			}
		}
	}
	for _, e := range invalidEntries() {
		if impl.EntrySame(e, e) || impl.EntrySame(e, base) || impl.EntrySame(base, e) {
			t.Errorf("invalid %.300q is the same as an entry", e)
		}
	}
	// The normalized forms agree, but one of the values is too long.
	short, long := person(attr("mail", "v")), person(attr("mail", strings.Repeat(" ", 40)+"v"))
	if impl.EntrySame(short, long) || impl.EntrySame(long, short) {
		t.Error("a valid entry is the same as an invalid one")
	}
}

// encoded is the rule for the encoding of an entry, without the check that the entry is valid.
func encoded(e impl.Entry, dn string) string {
	out := impl.PutText(dn) + impl.PutNum(int64(len(e.Attrs)))
	for _, a := range e.Attrs {
		out += impl.PutText(a.Name) + impl.PutNum(int64(len(a.Values)))
		for _, value := range a.Values {
			out += impl.PutText(value)
		}
	}
	return out
}

func TestEntryBytes(t *testing.T) {
	e := impl.Entry{Dn: rdns("cn", "A,b"), Attrs: []impl.Attr{attr("cn", "A,b"), attr("mail", "A@x", "b@x")}}
	want := "\x0e" + `cn=A\,b` + "\x04" + "\x04cn\x02\x06A,b" + "\x08mail\x04\x06A@x\x06b@x"
	if got := impl.EntryBytes(e); got != want {
		t.Errorf("the encoding is %q, want %q", got, want)
	}
	if got := impl.EntryBytes(person()); got != "\x16cn=Ann,ou=x\x00" {
		t.Errorf("the encoding without attributes is %q", got)
	}
	for _, e := range validEntries() {
		if got := impl.EntryBytes(e); got != encoded(e, impl.DnText(e.Dn)) {
			t.Errorf("the encoding of %q is %q", e, got)
		}
	}
	for _, e := range invalidEntries() {
		if got := impl.EntryBytes(e); got != "" {
			t.Errorf("the encoding of invalid %.300q is %.300q", e, got)
		}
	}
}

// Promise 9.
func TestEntryIsDecodedFromItsEncoding(t *testing.T) {
	for _, e := range validEntries() {
		text := impl.EntryBytes(e)
		wantEntry(t, "the decoded entry", impl.EntryRead(text), e, impl.OK)
		for cut := range len(text) {
			wantEntryCode(t, "an encoding cut short", impl.EntryRead(text[:cut]), impl.ErrSyntax)
		}
		for b := range 256 {
			more := string([]byte{byte(b)})
			wantEntryCode(t, "an encoding with a byte behind it", impl.EntryRead(text+more), impl.ErrSyntax)
		}
		wantEntryCode(t, "an encoding with a byte before it", impl.EntryRead("\x00"+text), impl.ErrSyntax)
		wantEntryCode(t, "an encoding twice", impl.EntryRead(text+text), impl.ErrSyntax)
	}
}

// Promise 9: what is accepted is an encoding, whichever byte is changed.
func TestEntryReadTakesOnlyEncodings(t *testing.T) {
	text := impl.EntryBytes(person(attr("cn", "A,b"), attr("mail", "A@x", "b@x")))
	taken := 0
	for at := range len(text) {
		for b := range 256 {
			changed := text[:at] + string([]byte{byte(b)}) + text[at+1:]
			got := impl.EntryRead(changed)
			if got.Code == impl.OK && impl.EntryRight(got.Entry) && impl.EntryBytes(got.Entry) == changed {
				taken++
				continue
			}
			wantEntryCode(t, "a changed encoding", got, impl.ErrSyntax)
		}
	}
	if taken <= len(text) {
		t.Errorf("only %d changed encodings were taken", taken)
	}
}

func TestEntryReadErrors(t *testing.T) {
	for _, e := range invalidEntries() {
		text := encoded(e, dnTextOf(e.Dn))
		code := int64(impl.ErrSyntax)
		if len(text) > impl.MaxBytes {
			code = impl.ErrSize
		}
		wantEntryCode(t, "the encoding of an invalid entry", impl.EntryRead(text), code)
	}
	huge := impl.PutNum(1 << 62)
	for _, text := range []string{
		"", "x", "\x00", "\x00\x00", "\x00\x00\x00",
		impl.PutText("cn=x"),
		impl.PutText("cn=x") + "\x01",
		impl.PutText("cn=x") + huge,
		impl.PutText("cn=x") + impl.PutNum(-1),
		impl.PutText("cn=x") + "\x80\x00",
		impl.PutText("cn=x") + "\x02" + impl.PutText("cn") + huge,
		impl.PutText("cn=x") + "\x02" + impl.PutText("cn") + "\x01" + impl.PutText("x"),
		impl.PutText("cn=x") + "\x02" + impl.PutText("cn") + "\x82\x00" + impl.PutText("x"),
		impl.PutText("cn=x") + "\x02" + "\x84\x00cn" + "\x02" + impl.PutText("x"),
		impl.PutText("cn=x,") + "\x00",
		impl.PutText(`cn=\x`) + "\x00",
		impl.PutText("cn=x ") + "\x00",
		"\x88\x00cn=x\x00",
		strings.Repeat("\x00", impl.MaxBytes),
		strings.Repeat("\xff", impl.MaxBytes),
		strings.Repeat("\x02a", impl.MaxBytes/2),
	} {
		wantEntryCode(t, "another string", impl.EntryRead(text), impl.ErrSyntax)
	}
	long := impl.EntryBytes(widestEntry())
	long += strings.Repeat("x", impl.MaxBytes+1-len(long))
	wantEntryCode(t, "a string of 8001 bytes", impl.EntryRead(long), impl.ErrSize)
	wantEntryCode(t, "a string of 8000 bytes", impl.EntryRead(long[1:]), impl.ErrSyntax)
}

// dnTextOf is the rule for the text of a DN, without the check that the DN is valid.
func dnTextOf(dn []impl.Rdn) string {
	var parts []string
	for _, rdn := range dn {
		parts = append(parts, rdn.Attr+"="+escaped(rdn.Value))
	}
	return strings.Join(parts, ",")
}

// textsOf returns all strings of an entry.
func textsOf(e impl.Entry) []string {
	var out []string
	for _, rdn := range e.Dn {
		out = append(out, rdn.Attr, rdn.Value)
	}
	for _, a := range e.Attrs {
		out = append(append(out, a.Name), a.Values...)
	}
	return out
}

func shareTexts(a []string, b []string) bool {
	for _, x := range a {
		for _, y := range b {
			if shareMemory(x, y) {
				return true
			}
		}
	}
	return false
}

func shareLists[T any](a []T, b []T) bool {
	if cap(a) == 0 || cap(b) == 0 {
		return false
	}
	var one T
	first, second := uintptr(unsafe.Pointer(unsafe.SliceData(a))), uintptr(unsafe.Pointer(unsafe.SliceData(b)))
	return first < second+uintptr(cap(b))*unsafe.Sizeof(one) && second < first+uintptr(cap(a))*unsafe.Sizeof(one)
}

func shareEntries(a impl.Entry, b impl.Entry) bool {
	if shareLists(a.Dn, b.Dn) || shareLists(a.Attrs, b.Attrs) || shareTexts(textsOf(a), textsOf(b)) {
		return true
	}
	for _, x := range a.Attrs {
		for _, y := range b.Attrs {
			if shareLists(x.Values, y.Values) {
				return true
			}
		}
	}
	return false
}

// roomy returns a copy of the entry in which every list has spare room, where a careless append would write.
func roomy(e impl.Entry) impl.Entry {
	out := impl.Entry{Dn: append(make([]impl.Rdn, 0, 10), e.Dn...)}
	out.Attrs = make([]impl.Attr, 0, 10)
	for _, a := range e.Attrs {
		out.Attrs = append(out.Attrs, impl.Attr{Name: a.Name, Values: append(make([]string, 0, 10), a.Values...)})
	}
	return out
}

// untouched reports whether the entry and the spare room of its lists are as roomy made them.
func untouched(e impl.Entry, kept impl.Entry) bool {
	spare := impl.Entry{Dn: e.Dn[len(e.Dn):cap(e.Dn)], Attrs: e.Attrs[len(e.Attrs):cap(e.Attrs)]}
	texts := strings.Join(textsOf(spare), "")
	for _, a := range e.Attrs {
		texts += strings.Join(a.Values[len(a.Values):cap(a.Values)], "")
	}
	return equalEntry(e, kept) && texts == ""
}

func TestEntryResultsShareNoMemory(t *testing.T) {
	kept := person(attr("cn", "Ann"), attr("mail", "B@x", "d@x"), attr("phone", "1"))
	e := roomy(kept)
	values := append(make([]string, 0, 10), "second", "First")
	name, value := strings.Repeat("m", 3), strings.Repeat("v", 3)
	for what, got := range map[string]impl.Entry{
		"ValueAdd of a value":     impl.ValueAdd(e, "mail", value).Entry,
		"ValueAdd of a name":      impl.ValueAdd(e, name, value).Entry,
		"ValueDrop of a value":    impl.ValueDrop(e, "mail", "b@x").Entry,
		"ValueDrop of an only":    impl.ValueDrop(e, "phone", "1").Entry,
		"AttrSet of an attribute": impl.AttrSet(e, "mail", values).Entry,
		"AttrSet of a name":       impl.AttrSet(e, name, values).Entry,
		"AttrSet to nothing":      impl.AttrSet(e, "cn", nil).Entry,
		"AttrSet without effect":  impl.AttrSet(e, "zz", nil).Entry,
	} {
		if len(got.Dn) == 0 || shareEntries(got, e) || shareTexts(textsOf(got), append([]string{name, value}, values...)) {
			t.Errorf("%s: %q shares memory with an argument", what, got)
		}
		for i, a := range got.Attrs {
			for _, b := range got.Attrs[:i] {
				if shareLists(a.Values, b.Values) || shareLists(a.Values, values) {
					t.Errorf("%s: lists of %q share memory", what, got)
				}
			}
		}
	}
	wantValues(t, "the given values", values[:cap(values)], "second", "First", "", "", "", "", "", "", "", "")
	if got := impl.AttrOf(e, "mail"); shareLists(got, e.Attrs[1].Values) || shareTexts(got, textsOf(e)) {
		t.Error("the values of an attribute share memory with the entry")
	}
	text := impl.EntryBytes(e)
	if shareTexts(textsOf(impl.EntryRead(text).Entry), []string{text}) {
		t.Error("a decoded entry shares memory with its encoding")
	}
	impl.EntryRight(e)
	impl.EntrySame(e, e)
	impl.HasValue(e, "mail", value)
	if !untouched(e, kept) {
		t.Errorf("an argument was changed to %q", e)
	}
}
