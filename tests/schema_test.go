package tests

import (
	"slices"
	"strconv"
	"strings"
	"testing"

	"loop.example/g00402/impl"
)

// list returns its arguments.
func list(names ...string) []string {
	return names
}

// numbered returns names in increasing order: the prefix followed by 10, 11 and so on.
func numbered(prefix string, many int) []string {
	var names []string
	for i := range many {
		names = append(names, prefix+strconv.Itoa(10+i))
	}
	return names
}

// classes returns classes without attributes.
func classes(names ...string) []impl.Class {
	var l []impl.Class
	for _, name := range names {
		l = append(l, impl.Class{Name: name})
	}
	return l
}

// personClass is the class of the chapter's example.
func personClass() impl.Class {
	return impl.Class{Name: "person", Must: list("cn"), May: list("mail"), Single: list("mail")}
}

// validSchemas returns schemas with every edge that the chapter names.
func validSchemas() [][]impl.Class {
	longest := "a23456789_1234567890"
	return [][]impl.Class{
		nil,
		{},
		{personClass()},
		{{Name: "person", Must: []string{}, May: []string{}, Single: []string{}}},
		classes("a", "a1", "a_", "aa", "b", "class"),
		classes(numbered("c", 6)...),
		{{Name: longest, Must: list(longest), Single: list(longest)}},
		{{Name: "a", Must: numbered("m", 10)}},
		{{Name: "a", May: numbered("m", 10)}},
		{{Name: "a", Must: numbered("m", 10), Single: numbered("m", 10)}},
		{{Name: "a", May: numbered("m", 10), Single: numbered("m", 10)}},
		{{Name: "a", Must: numbered("x", 10), May: numbered("m", 10), Single: append(numbered("m", 5), numbered("x", 5)...)}},
		{{Name: "a", Must: list("b", "d"), May: list("a", "c"), Single: list("a", "b", "c", "d")}},
		{{Name: "a", Must: list("b", "d"), May: list("a", "c"), Single: list("c")}},
		{{Name: "a", Must: list("clas", "class_", "classes"), May: list("class1")}},
		{{Name: "cn", Must: list("cn")}, {Name: "mail", May: list("cn", "mail")}},
		{{Name: "person", Must: list("cn", "uid"), May: list("mail", "phone"), Single: list("uid")}, {Name: "unit", Must: list("ou"), May: list("phone")}},
		{{Name: "a", Must: list("x"), May: list("y")}, {Name: "b", Must: list("y"), May: list("x")}, {Name: "c", May: list("x", "y"), Single: list("x")}},
	}
}

// wrongClasses returns classes that break a rule, where possible a single one.
func wrongClasses() []impl.Class {
	eleven := numbered("m", 11)
	all := []impl.Class{
		{Name: "k", Must: eleven},
		{Name: "k", May: eleven},
		{Name: "k", Must: eleven[:5], May: eleven[5:], Single: eleven},
		{Name: "k", Must: make([]string, impl.MaxList+1)},
		{Name: "k", Must: list("cn"), May: list("cn")},
		{Name: "k", Must: list("a", "cn"), May: list("cn", "d")},
		{Name: "k", Must: list("a", "b", "x"), May: list("c", "d", "x")},
		{Name: "k", Single: list("cn")},
		{Name: "k", Must: list("cn"), May: list("mail"), Single: list("cm")},
		{Name: "k", Must: list("cn"), May: list("mail"), Single: list("cn", "mail", "uid")},
		{Name: "k", Must: list("cn"), Single: list("cn", "cn1")},
		{Name: "k", Must: list("class")},
		{Name: "k", May: list("class")},
		{Name: "k", Must: list("a", "class", "z")},
		{Name: "k", May: list("a", "class"), Single: list("class")},
		{Name: "k", Must: list("a"), Single: list("class")},
	}
	for _, names := range [][]string{{"a", "a"}, {"b", "a"}, {"aa", "a"}, {"a", "c", "b"}, {"a", "b", "b"}} {
		sortedNames := slices.Compact(slices.Sorted(slices.Values(names)))
		all = append(all, impl.Class{Name: "k", Must: names}, impl.Class{Name: "k", May: names})
		all = append(all, impl.Class{Name: "k", Must: sortedNames, Single: names}, impl.Class{Name: "k", May: sortedNames, Single: names})
	}
	for _, name := range noNames() {
		all = append(all, impl.Class{Name: name}, impl.Class{Name: name, Must: list("cn")})
		all = append(all, impl.Class{Name: "k", Must: list(name)}, impl.Class{Name: "k", May: list(name)}, impl.Class{Name: "k", Single: list(name)})
	}
	long := strings.Repeat("a", impl.MaxBytes+1)
	return append(all, impl.Class{Name: long}, impl.Class{Name: "k", Must: list(long)}, impl.Class{Name: "k", May: list(long), Single: list(long)})
}

// invalidSchemas returns schemas that break a rule, where possible a single one.
func invalidSchemas() [][]impl.Class {
	all := [][]impl.Class{
		classes(numbered("c", 7)...),
		classes(numbered("c", 90)...),
		make([]impl.Class, 1),
		make([]impl.Class, impl.MaxList),
		make([]impl.Class, impl.MaxList+1),
		classes("a", "a"),
		classes("b", "a"),
		classes("aa", "a"),
		classes("a", "c", "b"),
		classes("a", "b", "c", "d", "e", "e"),
		{{Name: "a", Must: list("cn")}, {Name: "a", Must: list("mail")}},
	}
	for _, c := range wrongClasses() {
		all = append(all, []impl.Class{c})
		if c.Name == "k" {
			all = append(all, []impl.Class{c, personClass()}, []impl.Class{{Name: "j"}, c}, []impl.Class{{Name: "j"}, c, personClass()})
		}
	}
	return all
}

func equalClass(a impl.Class, b impl.Class) bool {
	return a.Name == b.Name && slices.Equal(a.Must, b.Must) && slices.Equal(a.May, b.May) && slices.Equal(a.Single, b.Single)
}

func wantClass(t *testing.T, l []impl.Class, name string, want impl.Class) {
	t.Helper()
	if got := impl.ClassOf(l, name); !equalClass(got, want) {
		t.Errorf("the class %.30q of %.300q is %q, want %q", name, l, got, want)
	}
}

func wantCheck(t *testing.T, what string, l []impl.Class, e impl.Entry, want int64) {
	t.Helper()
	if got := impl.Check(l, e); got != want {
		t.Errorf("%s: Check of %.300q and %.300q is %d, want %d", what, l, e, got, want)
	}
}

// x returns an entry cn=x with the attributes as they are given.
func x(attrs ...impl.Attr) impl.Entry {
	return impl.Entry{Dn: rdns("cn", "x"), Attrs: attrs}
}

func TestChapter6Example(t *testing.T) {
	if impl.MaxClasses != 6 {
		t.Errorf("MaxClasses is %d", impl.MaxClasses)
	}
	l := []impl.Class{personClass()}
	class := attr("class", "Person")
	wantCheck(t, "the entry", l, x(class, attr("cn", "x")), impl.OK)
	wantCheck(t, "with one mail", l, x(class, attr("cn", "x"), attr("mail", "a")), impl.OK)
	wantCheck(t, "with two mails", l, x(class, attr("cn", "x"), attr("mail", "a", "b")), impl.ErrSchema)
	wantCheck(t, "with another attribute", l, x(class, attr("cn", "x"), attr("odd", "a")), impl.ErrSchema)
	wantCheck(t, "with cn y", l, x(class, attr("cn", "y")), impl.ErrSchema)
}

func TestSchemaRight(t *testing.T) {
	for _, l := range validSchemas() {
		if !impl.SchemaRight(l) {
			t.Errorf("%q is not valid", l)
		}
	}
	for _, l := range invalidSchemas() {
		if impl.SchemaRight(l) {
			t.Errorf("%.300q is valid", l)
		}
	}
}

func TestClassOf(t *testing.T) {
	others := append(noNames(), "Person", "PERSON", "perso", "persons", "person ", "none", "c1", "c16", strings.Repeat("a", impl.MaxBytes+1))
	for _, l := range validSchemas() {
		for _, c := range l {
			wantClass(t, l, c.Name, c)
		}
		for _, name := range others {
			wantClass(t, l, name, impl.Class{})
		}
	}
	for _, l := range invalidSchemas() {
		for _, name := range append(others, "person", "a", "k", "c10") {
			wantClass(t, l, name, impl.Class{})
		}
	}
}

func TestKnown(t *testing.T) {
	wantValues(t, "the attributes of no class", impl.Known(nil), "class")
	wantValues(t, "the attributes of empty classes", impl.Known(classes("a", "b")), "class")
	wantValues(t, "the attributes of a person", impl.Known([]impl.Class{personClass()}), "class", "cn", "mail")
	twice := []impl.Class{{Name: "a", Must: list("x"), May: list("b", "y")}, {Name: "z", Must: list("b", "y"), May: list("classes", "x")}}
	wantValues(t, "attributes that two classes have", impl.Known(twice), "b", "class", "classes", "x", "y")
	var most []impl.Class
	want := list("class")
	for _, name := range numbered("c", 6) {
		c := impl.Class{Name: name, Must: numbered(name+"_z", 10), May: numbered(name+"_a", 10)}
		most = append(most, c)
		want = append(append(want, c.Must...), c.May...)
	}
	slices.Sort(want)
	wantValues(t, "as many attributes as there can be", impl.Known(most), want...)
	for _, l := range invalidSchemas() {
		wantValues(t, "the attributes of an invalid schema", impl.Known(l))
	}
}

// staff has a class for each rule of Check.
func staff() []impl.Class {
	return []impl.Class{
		{Name: "person", Must: list("cn", "uid"), May: list("mail", "phone"), Single: list("mail", "uid")},
		{Name: "thing"},
		{Name: "unit", Must: list("ou"), May: list("cn")},
	}
}

func TestAcceptedEntries(t *testing.T) {
	cn, uid := attr("cn", "x"), attr("uid", "1")
	for _, e := range []impl.Entry{
		x(attr("class", "person"), cn, uid),
		x(attr("class", " PerSon  "), cn, uid),
		x(attr("class", "person"), attr("cn", "a", " X ", "y"), uid),
		x(attr("class", "person"), cn, attr("mail", "a"), uid),
		x(attr("class", "person"), cn, attr("mail", "a"), attr("phone", "1", "2", "3", "4"), uid),
		x(attr("class", "unit"), cn, attr("ou", "a")),
		{Dn: rdns("cn", " X", "zz", "x"), Attrs: []impl.Attr{attr("class", "person"), cn, uid}},
		{Dn: rdns("uid", "1", "ou", "y", "ou", "z"), Attrs: []impl.Attr{attr("class", "person"), cn, uid}},
		{Dn: rdns("class", "PERSON"), Attrs: []impl.Attr{attr("class", "person"), cn, uid}},
		{Dn: rdns("class", "thing", "cn", "x"), Attrs: []impl.Attr{attr("class", "Thing")}},
	} {
		wantCheck(t, "accepted", staff(), e, impl.OK)
		wantValues(t, "the missing names", impl.Missing(staff(), e))
	}
	named := []impl.Class{{Name: "class", May: list("cn")}}
	wantCheck(t, "a class named class", named, x(attr("class", "class"), cn), impl.OK)
	seven := impl.Class{Name: "full", Must: numbered("m", 7)}
	full := impl.Entry{Dn: rdns("m16", "v"), Attrs: []impl.Attr{attr("class", "full")}}
	for _, name := range seven.Must {
		full.Attrs = append(full.Attrs, attr(name, "v"))
	}
	wantCheck(t, "an entry with eight attributes", []impl.Class{seven}, full, impl.OK)
}

// Each entry breaks one rule and would be accepted otherwise.
func TestViolations(t *testing.T) {
	class, cn, uid := attr("class", "person"), attr("cn", "x"), attr("uid", "1")
	for _, c := range []struct {
		what string
		e    impl.Entry
	}{
		{"no class", x(cn, uid)},
		{"two classes", x(attr("class", "person", "unit"), cn, uid)},
		{"two classes, one of them none", x(attr("class", "none", "person"), cn, uid)},
		{"another class", x(attr("class", "none"), cn, uid)},
		{"another class and nothing else", impl.Entry{Dn: rdns("class", "none"), Attrs: []impl.Attr{attr("class", "none")}}},
		{"the beginning of a class", x(attr("class", "perso"), cn, uid)},
		{"more than a class", x(attr("class", "person1"), cn, uid)},
		{"a space in a class", x(attr("class", "per son"), cn, uid)},
		{"no name as class", x(attr("class", "-"), cn, uid)},
		{"one of two required attributes missing", x(class, cn)},
		{"the other one missing", impl.Entry{Dn: rdns("uid", "1"), Attrs: []impl.Attr{class, uid}}},
		{"both missing", impl.Entry{Dn: rdns("class", "person"), Attrs: []impl.Attr{class}}},
		{"an attribute of another class", x(class, cn, attr("ou", "a"), uid)},
		{"an attribute of no class", x(class, cn, uid, attr("zz", "a"))},
		{"an attribute before all others", x(attr("a", "a"), class, cn, uid)},
		{"any attribute where none is permitted", impl.Entry{Dn: rdns("class", "thing"), Attrs: []impl.Attr{attr("class", "thing"), cn}}},
		{"two values of a single optional one", x(class, cn, attr("mail", "a", "b"), uid)},
		{"two values of a single required one", x(class, cn, attr("uid", "1", "2"))},
		{"four values of a single one", x(class, cn, attr("mail", "a", "b", "c", "d"), uid)},
		{"another value of the RDN", x(class, attr("cn", "xx"), uid)},
		{"several other values of the RDN", x(class, attr("cn", "w", "xx", "y"), uid)},
		{"the value of the RDN in another attribute", impl.Entry{Dn: rdns("uid", "x"), Attrs: []impl.Attr{class, cn, uid}}},
		{"no attribute of the RDN", impl.Entry{Dn: rdns("phone", "x"), Attrs: []impl.Attr{class, cn, uid}}},
		{"an unknown attribute in the RDN", impl.Entry{Dn: rdns("zz", "x"), Attrs: []impl.Attr{class, cn, uid}}},
		{"the value of another RDN only", impl.Entry{Dn: rdns("cn", "y", "cn", "x"), Attrs: []impl.Attr{class, cn, uid}}},
		{"another class in the RDN", impl.Entry{Dn: rdns("class", "unit"), Attrs: []impl.Attr{class, cn, uid}}},
		{"no attributes at all", x()},
	} {
		wantCheck(t, c.what, staff(), c.e, impl.ErrSchema)
		wantCheck(t, c.what+" and no class at all", nil, c.e, impl.ErrSchema)
	}
	wantCheck(t, "a schema without classes", nil, x(class, cn, uid), impl.ErrSchema)
	wantCheck(t, "a class of ten required attributes", []impl.Class{{Name: "k", Must: numbered("m", 10)}}, x(attr("class", "k")), impl.ErrSchema)
}

func TestCheckErrors(t *testing.T) {
	right := x(attr("class", "person"), attr("cn", "x"))
	wrong := x(attr("cn", "y"))
	l := []impl.Class{personClass()}
	wantCheck(t, "a valid schema and a valid entry", l, right, impl.OK)
	for _, schema := range invalidSchemas() {
		want := int64(impl.ErrForm)
		if len(schema) > impl.MaxList {
			want = impl.ErrSize
		}
		for _, e := range []impl.Entry{right, wrong, {}, x(attr("class", "k"))} {
			wantCheck(t, "an invalid schema", schema, e, want)
			wantValues(t, "the missing names of an invalid schema", impl.Missing(schema, e))
		}
	}
	for _, e := range invalidEntries() {
		for _, schema := range [][]impl.Class{nil, l, staff(), classes("b", "a")} {
			wantCheck(t, "an invalid entry", schema, e, impl.ErrForm)
			wantValues(t, "the missing names of an invalid entry", impl.Missing(schema, e))
		}
	}
	invalid := impl.Entry{Dn: nil, Attrs: []impl.Attr{attr("class", "person")}}
	wantCheck(t, "an entry at the root", l, invalid, impl.ErrForm)
	wantValues(t, "the missing names of an entry at the root", impl.Missing(l, invalid))
	wantCheck(t, "an entry with too many classes", l, x(attr("class", "1", "2", "3", "4", "person"), attr("cn", "x")), impl.ErrForm)
	wantCheck(t, "seven classes", append(classes(numbered("c", 6)...), personClass()), right, impl.ErrForm)
	wantCheck(t, "six classes", append(classes(numbered("c", 5)...), personClass()), right, impl.OK)
	wantCheck(t, "400 classes and an invalid entry", make([]impl.Class, impl.MaxList), impl.Entry{}, impl.ErrForm)
	wantCheck(t, "401 classes and an invalid entry", make([]impl.Class, impl.MaxList+1), impl.Entry{}, impl.ErrSize)
}

func TestMissing(t *testing.T) {
	class := attr("class", " Person ")
	for _, c := range []struct {
		what string
		e    impl.Entry
		want []string
	}{
		{"all", x(class), list("cn", "uid")},
		{"the second", x(class, attr("cn", "y")), list("uid")},
		{"the first", x(class, attr("uid", "1", "2")), list("cn")},
		{"none", x(class, attr("cn", "y"), attr("uid", "1")), nil},
		{"all, with other attributes", x(class, attr("mail", "a", "b"), attr("ou", "a"), attr("zz", "b")), list("cn", "uid")},
		{"those of another class", x(attr("class", "unit"), attr("cn", "x")), list("ou")},
		{"those of a class without any", x(attr("class", "thing"), attr("cn", "x")), nil},
		{"no class", x(attr("mail", "a")), nil},
		{"two classes", x(attr("class", "person", "unit")), nil},
		{"an unknown class", x(attr("class", "none")), nil},
		{"no name as class", x(attr("class", "-")), nil},
	} {
		wantValues(t, "the missing names, "+c.what+",", impl.Missing(staff(), c.e), c.want...)
		wantValues(t, "the missing names without classes, "+c.what+",", impl.Missing(nil, c.e))
	}
	ten := []impl.Class{{Name: "k", Must: numbered("m", 10), Single: numbered("m", 10)}}
	wantValues(t, "ten missing names", impl.Missing(ten, x(attr("class", "k"))), numbered("m", 10)...)
	wantValues(t, "nine missing names", impl.Missing(ten, x(attr("class", "k"), attr("m10", "v"))), numbered("m", 10)[1:]...)
}

// lawSchemas returns schemas over the attributes of lawEntries.
func lawSchemas() [][]impl.Class {
	person := personClass()
	unit := impl.Class{Name: "unit", Must: list("mail", "uid"), May: list("cn"), Single: list("cn", "uid")}
	free := impl.Class{Name: "person", May: list("cn", "mail", "uid")}
	return [][]impl.Class{nil, classes("person", "unit"), {person}, {unit}, {person, unit}, {free}, {free, unit}}
}

// lawEntries returns entries with every choice of some values of four attributes, under several DNs.
func lawEntries() []impl.Entry {
	var all []impl.Entry
	for _, dn := range [][]impl.Rdn{rdns("cn", "x"), rdns("uid", "1", "cn", "x"), rdns("class", "Unit")} {
		for _, class := range [][]string{nil, {"Person"}, {"unit"}, {"none"}, {"person", "unit"}} {
			for _, cn := range [][]string{nil, {"X"}, {"x", "y"}, {"z"}} {
				for _, mail := range [][]string{nil, {"a"}, {"a", "b"}} {
					for _, uid := range [][]string{nil, {"1"}, {"1", "2"}} {
						all = append(all, entryOf(dn, attr("class", class...), attr("cn", cn...), attr("mail", mail...), attr("uid", uid...)))
					}
				}
			}
		}
	}
	return all
}

// entryOf returns an entry with those of the attributes that have values.
func entryOf(dn []impl.Rdn, attrs ...impl.Attr) impl.Entry {
	e := impl.Entry{Dn: dn}
	for _, a := range attrs {
		if len(a.Values) > 0 {
			e.Attrs = append(e.Attrs, a)
		}
	}
	return e
}

// accepts is the rule of Check for a valid schema and a valid entry, and missing that of Missing.
func accepts(l []impl.Class, e impl.Entry) (accepted bool, missing []string) {
	named := attrNamed(e, "class").Values
	at := slices.IndexFunc(l, func(c impl.Class) bool { return len(named) == 1 && strings.ToLower(named[0]) == c.Name })
	if at < 0 {
		return false, nil
	}
	accepted = holds(attrNamed(e, e.Dn[0].Attr).Values, e.Dn[0].Value)
	for _, name := range l[at].Must {
		if len(attrNamed(e, name).Values) == 0 {
			missing = append(missing, name)
		}
	}
	for _, a := range without(e, "class") {
		permitted := slices.Contains(l[at].Must, a.Name) || slices.Contains(l[at].May, a.Name)
		tooMany := len(a.Values) > 1 && slices.Contains(l[at].Single, a.Name)
		accepted = accepted && permitted && !tooMany
	}
	return accepted && len(missing) == 0, missing
}

// Promise 12.
func TestAcceptedEntryMissesNothingAndHasOnlyKnownAttributes(t *testing.T) {
	seen := make(map[int64]int)
	for _, l := range lawSchemas() {
		for _, e := range lawEntries() {
			accepted, missing := accepts(l, e)
			want := int64(impl.ErrSchema)
			if accepted {
				want = impl.OK
				checkAccepted(t, l, e)
			}
			seen[want]++
			wantCheck(t, "by the rule", l, e, want)
			wantValues(t, "the missing names", impl.Missing(l, e), missing...)
		}
	}
	if seen[impl.OK] < 100 || seen[impl.ErrSchema] < 1000 {
		t.Errorf("the codes were %v", seen)
	}
}

func checkAccepted(t *testing.T, l []impl.Class, e impl.Entry) {
	t.Helper()
	wantValues(t, "the missing names of an accepted entry", impl.Missing(l, e))
	for _, a := range e.Attrs {
		if !slices.Contains(impl.Known(l), a.Name) {
			t.Errorf("%q is accepted by %q with the unknown attribute %s", e, l, a.Name)
		}
	}
	for _, name := range impl.ClassOf(l, impl.Norm(attrNamed(e, "class").Values[0])).Must {
		lacking := impl.AttrSet(e, name, nil).Entry
		wantCheck(t, "without "+name, l, lacking, impl.ErrSchema)
		wantValues(t, "the missing names", impl.Missing(l, lacking), name)
	}
	wantCheck(t, "with an unknown attribute", l, impl.ValueAdd(e, "zz", "v").Entry, impl.ErrSchema)
	wantCheck(t, "with a second class", l, impl.ValueAdd(e, "class", "zz").Entry, impl.ErrSchema)
	wantCheck(t, "without a class", l, impl.AttrSet(e, "class", nil).Entry, impl.ErrSchema)
}

// roomyNames returns a copy of the names with spare room, where a careless append would write.
func roomyNames(names []string) []string {
	return append(make([]string, 0, 24), names...)
}

// roomySchema returns a copy of the schema in which every list has spare room.
func roomySchema(l []impl.Class) []impl.Class {
	out := make([]impl.Class, 0, 12)
	for _, c := range l {
		out = append(out, impl.Class{Name: c.Name, Must: roomyNames(c.Must), May: roomyNames(c.May), Single: roomyNames(c.Single)})
	}
	return out
}

// untouchedSchema reports whether the schema and the spare room of its lists are as roomySchema made them.
func untouchedSchema(l []impl.Class, kept []impl.Class) bool {
	texts := strings.Join(schemaTexts(l[len(l):cap(l)]), "")
	for _, c := range l {
		for _, names := range [][]string{c.Must, c.May, c.Single} {
			texts += strings.Join(names[len(names):cap(names)], "")
		}
	}
	return slices.EqualFunc(l, kept, equalClass) && texts == ""
}

func schemaTexts(l []impl.Class) []string {
	var out []string
	for _, c := range l {
		out = append(out, c.Name)
		out = append(out, slices.Concat(c.Must, c.May, c.Single)...)
	}
	return out
}

func TestSchemaResultsShareNoMemory(t *testing.T) {
	l := roomySchema(staff())
	kept := x(attr("class", "person"), attr("mail", "a"))
	e := roomy(kept)
	name := "person"
	got := impl.ClassOf(l, name)
	lists := [][]string{got.Must, got.May, got.Single, impl.Known(l), impl.Known(l), impl.Missing(l, e), impl.Missing(l, e)}
	given := append(append(schemaTexts(l), textsOf(e)...), name)
	for i, names := range lists {
		if len(names) == 0 || shareTexts(names, given) || shareTexts(list(got.Name), given) {
			t.Errorf("the result %q shares memory with an argument", names)
		}
		for _, c := range l {
			if shareLists(names, c.Must) || shareLists(names, c.May) || shareLists(names, c.Single) {
				t.Errorf("the result %q is a list of the schema", names)
			}
		}
		for _, others := range lists[:i] {
			if shareLists(names, others) || shareTexts(names, others) {
				t.Errorf("the results %q and %q share memory", names, others)
			}
		}
	}
	impl.SchemaRight(l)
	impl.Check(l, e)
	impl.Check(l, roomy(x(attr("class", "unit"), attr("cn", "x"), attr("ou", "x"))))
	if !untouchedSchema(l, staff()) || !untouched(e, kept) {
		t.Errorf("an argument was changed: %q, %q", l, e)
	}
}
