package tests

import (
	"math"
	"slices"
	"strings"
	"testing"

	"loop.example/g00402/impl"
)

// allow returns a rule on the root that grants a right.
func allow(who string, right int64, attrs ...string) impl.Rule {
	return impl.Rule{Who: who, Attrs: attrs, Right: right, Allow: true}
}

// deny returns a rule on the root that denies a right.
func deny(who string, right int64, attrs ...string) impl.Rule {
	return impl.Rule{Who: who, Attrs: attrs, Right: right}
}

// on returns the rule with another base.
func on(base []impl.Rdn, rule impl.Rule) impl.Rule {
	rule.Base = base
	return rule
}

// acl returns its arguments.
func acl(rules ...impl.Rule) []impl.Rule {
	return rules
}

// repeated returns a list that contains the rule this many times.
func repeated(rule impl.Rule, many int) []impl.Rule {
	return slices.Repeat(acl(rule), many)
}

func readAll() impl.Rule {
	return allow("*", impl.RtRead)
}

func writeAll() impl.Rule {
	return allow("*", impl.RtWrite)
}

func allRights() []int64 {
	return []int64{impl.RtRead, impl.RtWrite, impl.RtAdd, impl.RtDelete}
}

func noRights() []int64 {
	return []int64{0, -1, -4, 5, 6, 256 + impl.RtRead, 1<<32 + impl.RtRead, math.MaxInt64, math.MinInt64}
}

// validRules returns rules with every edge that the chapter names.
func validRules() []impl.Rule {
	longest := "a23456789_1234567890"
	all := []impl.Rule{
		readAll(),
		deny("*", impl.RtRead),
		allow("ann", impl.RtRead),
		allow("a", impl.RtRead),
		allow(longest, impl.RtRead, longest),
		allow("ann", impl.RtRead, "cn"),
		allow("ann", impl.RtRead, "a", "a1", "a_", "aa", "b", "class"),
		allow("ann", impl.RtRead, numbered("m", 8)...),
		{Who: "ann", Base: []impl.Rdn{}, Attrs: []string{}, Right: impl.RtRead},
	}
	for _, right := range allRights() {
		all = append(all, allow("ann", right, "cn"), deny("ann", right, "cn"))
	}
	for _, dn := range validDns() {
		all = append(all, on(dn, readAll()))
	}
	return all
}

// wrongRules returns rules that break one rule of the chapter each and would allow everybody to read.
func wrongRules() []impl.Rule {
	all := []impl.Rule{
		allow("*", impl.RtRead, numbered("m", 9)...),
		allow("*", impl.RtRead, numbered("m", 90)...),
		allow("*", impl.RtRead, manyNames(impl.MaxList+1)...),
		allow("*", impl.RtRead, ""),
		allow("*", impl.RtRead, "*"),
		allow("*", impl.RtRead, "cn", "*"),
		allow("*", impl.RtRead, "cn", "cn"),
		allow("*", impl.RtRead, "mail", "cn"),
		allow("*", impl.RtRead, "cnn", "cn"),
		allow("*", impl.RtRead, "a", "c", "b"),
		allow("*", impl.RtRead, "a", "b", "c", "d", "e", "f", "g", "g"),
		allow("**", impl.RtRead),
		allow("* ", impl.RtRead),
		allow("ann*", impl.RtRead),
		allow(strings.Repeat("a", impl.MaxBytes+1), impl.RtRead),
		allow("*", impl.RtRead, strings.Repeat("a", impl.MaxBytes+1)),
	}
	for _, name := range noNames() {
		all = append(all, allow(name, impl.RtRead), allow("*", impl.RtRead, name), allow("*", impl.RtRead, "a", name))
	}
	for _, right := range noRights() {
		all = append(all, allow("*", right))
	}
	for _, dn := range invalidDns() {
		all = append(all, on(dn, readAll()))
	}
	return all
}

// invalidAcls returns lists that are not valid, among them ones in which the wrong rule is not the first.
func invalidAcls() [][]impl.Rule {
	all := [][]impl.Rule{
		repeated(readAll(), impl.MaxRules+1),
		repeated(readAll(), impl.MaxList),
		repeated(readAll(), impl.MaxList+1),
		make([]impl.Rule, 1),
		make([]impl.Rule, impl.MaxRules),
		append(repeated(readAll(), impl.MaxRules-1), impl.Rule{}),
	}
	for _, rule := range wrongRules() {
		all = append(all, acl(rule), acl(readAll(), rule), acl(readAll(), rule, writeAll()))
	}
	return all
}

// aclCode is the code with which ViewOf rejects a list that is not valid.
func aclCode(l []impl.Rule) int64 {
	if len(l) > impl.MaxList {
		return impl.ErrSize
	}
	return impl.ErrForm
}

func wantAllowed(t *testing.T, what string, l []impl.Rule, who string, dn []impl.Rdn, attr string, right int64, want bool) {
	t.Helper()
	if got := impl.Allowed(l, who, dn, attr, right); got != want {
		t.Errorf("%s: Allowed of %.300v for %.30q, %.200q, %.30q and %d is %v", what, l, who, dn, attr, right, got)
	}
}

func wantView(t *testing.T, what string, l []impl.Rule, who string, e impl.Entry, want impl.Entry) {
	t.Helper()
	wantEntry(t, what, impl.ViewOf(l, who, e), want, impl.OK)
}

func wantNoView(t *testing.T, what string, l []impl.Rule, who string, e impl.Entry, code int64) {
	t.Helper()
	wantEntryCode(t, what, impl.ViewOf(l, who, e), code)
}

func wantVisible(t *testing.T, what string, l []impl.Rule, who string, entries []impl.Entry, want ...impl.Entry) {
	t.Helper()
	if got := impl.Visible(l, who, entries); !slices.EqualFunc(got, want, equalEntry) {
		t.Errorf("%s: visible are %.300q, want %.300q", what, got, want)
	}
}

func wantMayChange(t *testing.T, what string, l []impl.Rule, who string, e impl.Entry, names []string, want bool) {
	t.Helper()
	if got := impl.MayChange(l, who, e, names); got != want {
		t.Errorf("%s: MayChange of %.300v for %.30q, %.300q and %.100q is %v", what, l, who, e, names, got)
	}
}

func TestChapter7Example(t *testing.T) {
	l := acl(deny("ann", impl.RtRead, "mail"), readAll())
	dn := rdns("cn", "x")
	wantAllowed(t, "ann and cn", l, "ann", dn, "cn", impl.RtRead, true)
	wantAllowed(t, "ann and mail", l, "ann", dn, "mail", impl.RtRead, false)
	wantAllowed(t, "bob and cn", l, "bob", dn, "cn", impl.RtRead, true)
	wantAllowed(t, "bob and mail", l, "bob", dn, "mail", impl.RtRead, true)
	e := x(attr("cn", "x"), attr("mail", "m"))
	wantView(t, "what ann sees", l, "ann", e, x(attr("cn", "x")))
	wantView(t, "what bob sees", l, "bob", e, e)
}

func TestChapter7Constants(t *testing.T) {
	got := []int64{impl.RtRead, impl.RtWrite, impl.RtAdd, impl.RtDelete, impl.MaxRules}
	if !slices.Equal(got, []int64{1, 2, 3, 4, 10}) {
		t.Errorf("the constants are %v", got)
	}
}

func TestAclRight(t *testing.T) {
	valid := [][]impl.Rule{nil, {}, repeated(readAll(), impl.MaxRules), acl(readAll(), deny("*", impl.RtRead), readAll())}
	for _, rule := range validRules() {
		valid = append(valid, acl(rule), repeated(rule, impl.MaxRules), acl(writeAll(), rule))
	}
	for _, l := range valid {
		if !impl.AclRight(l) {
			t.Errorf("%v is not valid", l)
		}
	}
	for _, l := range invalidAcls() {
		if impl.AclRight(l) {
			t.Errorf("%.300v is valid", l)
		}
	}
}

// The rule on its own applies, or one thing keeps it from applying.
func TestRuleApplies(t *testing.T) {
	ann, long := rdns("cn", "Ann", "ou", "x"), chain(6)
	read := int64(impl.RtRead)
	for _, c := range []struct {
		what string
		rule impl.Rule
		who  string
		dn   []impl.Rdn
		attr string
		want bool
	}{
		{"everybody", allow("*", read), "bob", ann, "cn", true},
		{"the same name", allow("bob", read), "bob", ann, "cn", true},
		{"another name", allow("ann", read), "bob", ann, "cn", false},
		{"the beginning of the name", allow("bo", read), "bob", ann, "cn", false},
		{"more than the name", allow("bobo", read), "bob", ann, "cn", false},
		{"the root", on(nil, readAll()), "bob", long, "cn", true},
		{"the DN itself", on(ann, readAll()), "bob", ann, "cn", true},
		{"the DN in another case", on(rdns("cn", " ANN", "ou", "X"), readAll()), "bob", ann, "cn", true},
		{"its parent", on(rdns("ou", "X "), readAll()), "bob", ann, "cn", true},
		{"the end of a long DN", on(long[5:], readAll()), "bob", long, "cn", true},
		{"the beginning of a long DN", on(long[:5], readAll()), "bob", long, "cn", false},
		{"its child", on(rdns("cn", "b", "cn", "Ann", "ou", "x"), readAll()), "bob", ann, "cn", false},
		{"its sibling", on(rdns("cn", "b", "ou", "x"), readAll()), "bob", ann, "cn", false},
		{"its first RDN", on(ann[:1], readAll()), "bob", ann, "cn", false},
		{"another attribute in the base", on(rdns("cn", "x"), readAll()), "bob", ann, "cn", false},
		{"no attributes", allow("*", read), "bob", ann, "zz", true},
		{"no attributes and the entry", allow("*", read), "bob", ann, "", true},
		{"the attribute", allow("*", read, "cn"), "bob", ann, "cn", true},
		{"the attribute and the entry", allow("*", read, "cn"), "bob", ann, "", false},
		{"another attribute", allow("*", read, "cn"), "bob", ann, "mail", false},
		{"the beginning of the attribute", allow("*", read, "mai"), "bob", ann, "mail", false},
		{"more than the attribute", allow("*", read, "mails"), "bob", ann, "mail", false},
		{"the first of the attributes", allow("*", read, numbered("m", 8)...), "bob", ann, "m10", true},
		{"the last of the attributes", allow("*", read, numbered("m", 8)...), "bob", ann, "m17", true},
		{"none of the attributes", allow("*", read, numbered("m", 8)...), "bob", ann, "m18", false},
		{"eight attributes and the entry", allow("*", read, numbered("m", 8)...), "bob", ann, "", false},
		{"a user named as an attribute", allow("cn", read), "bob", ann, "cn", false},
	} {
		wantAllowed(t, c.what, acl(c.rule), c.who, c.dn, c.attr, read, c.want)
		denial := c.rule
		denial.Allow = false
		wantAllowed(t, c.what+", denied", acl(denial), c.who, c.dn, c.attr, read, false)
		wantAllowed(t, c.what+", denied and then allowed", acl(denial, readAll()), c.who, c.dn, c.attr, read, !c.want)
		wantAllowed(t, c.what+", allowed and then denied", acl(c.rule, deny("*", read)), c.who, c.dn, c.attr, read, c.want)
	}
	for _, given := range allRights() {
		for _, right := range allRights() {
			wantAllowed(t, "a right", acl(allow("*", given)), "bob", ann, "cn", right, given == right)
		}
	}
}

func TestAllowedErrors(t *testing.T) {
	dn := rdns("cn", "x")
	var all []impl.Rule
	for _, right := range allRights() {
		all = append(all, allow("*", right))
	}
	wantAllowed(t, "valid arguments", all, "ann", dn, "cn", impl.RtRead, true)
	wantAllowed(t, "no rules", nil, "ann", dn, "cn", impl.RtRead, false)
	wantAllowed(t, "ten rules", repeated(readAll(), impl.MaxRules), "ann", dn, "cn", impl.RtRead, true)
	for _, l := range invalidAcls() {
		wantAllowed(t, "an invalid list", l, "ann", dn, "cn", impl.RtRead, false)
		wantAllowed(t, "an invalid list", l, "ann", dn, "", impl.RtRead, false)
	}
	for _, who := range append(noNames(), "*", "**", strings.Repeat("a", impl.MaxBytes), strings.Repeat("a", impl.MaxBytes+1)) {
		wantAllowed(t, "a user without a name", all, who, dn, "cn", impl.RtRead, false)
		wantAllowed(t, "a user without a name and the entry", all, who, dn, "", impl.RtRead, false)
	}
	for _, other := range append(invalidDns(), nil, []impl.Rdn{}) {
		wantAllowed(t, "an invalid or empty DN", all, "ann", other, "cn", impl.RtRead, false)
		wantAllowed(t, "an invalid or empty DN and the entry", all, "ann", other, "", impl.RtRead, false)
	}
	for _, name := range append(noNames(), "*", strings.Repeat("a", impl.MaxBytes), strings.Repeat("a", impl.MaxBytes+1)) {
		wantAllowed(t, "an attribute without a name", all, "ann", dn, name, impl.RtRead, name == "")
	}
	for _, right := range noRights() {
		wantAllowed(t, "another right", all, "ann", dn, "cn", right, false)
		wantAllowed(t, "another right and the entry", all, "ann", dn, "", right, false)
	}
}

// lawRules returns every rule that can be made of some users, bases, attributes and rights.
func lawRules() []impl.Rule {
	var all []impl.Rule
	for _, who := range list("*", "ann", "bob") {
		for _, base := range [][]impl.Rdn{nil, rdns("ou", "X"), rdns("cn", "a", "ou", "x")} {
			for _, attrs := range [][]string{nil, {"mail"}, {"cn", "mail"}} {
				for _, right := range []int64{impl.RtRead, impl.RtWrite} {
					all = append(all, on(base, allow(who, right, attrs...)), on(base, deny(who, right, attrs...)))
				}
			}
		}
	}
	return all
}

// lawAcls returns the empty list, every list of one or two of lawRules, and longer ones in which most pairs of rules occur.
func lawAcls() [][]impl.Rule {
	rules := lawRules()
	all := [][]impl.Rule{nil}
	for i, first := range rules {
		all = append(all, acl(first))
		for k, second := range rules {
			all = append(all, acl(first, second))
			if k%9 == 0 {
				all = append(all, acl(first, second, rules[(7*i+5*k)%len(rules)], rules[(11*i+3*k)%len(rules)]))
			}
		}
	}
	return all
}

// applies is the chapter's rule, with DNs compared as texts. The values of the DNs need no escape.
func applies(rule impl.Rule, who string, dn []impl.Rdn, attr string, right int64) bool {
	base, below := strings.ToLower(dnTextOf(rule.Base)), strings.ToLower(dnTextOf(dn))
	under := base == "" || strings.HasSuffix(","+below, ","+base)
	named := len(rule.Attrs) == 0 || slices.Contains(rule.Attrs, attr)
	return (rule.Who == "*" || rule.Who == who) && under && named && rule.Right == right
}

func firstDecides(l []impl.Rule, who string, dn []impl.Rdn, attr string, right int64) bool {
	at := slices.IndexFunc(l, func(rule impl.Rule) bool { return applies(rule, who, dn, attr, right) })
	return at >= 0 && l[at].Allow
}

// Promise 13.
func TestFirstRuleThatAppliesDecides(t *testing.T) {
	dns := [][]impl.Rdn{rdns("ou", "x"), rdns("cn", "A", "ou", "x"), rdns("cn", "b")}
	seen := make(map[bool]int)
	for _, l := range lawAcls() {
		for _, dn := range dns {
			for _, name := range list("", "cn", "mail") {
				for _, right := range []int64{impl.RtRead, impl.RtWrite} {
					want := firstDecides(l, "ann", dn, name, right)
					seen[want]++
					wantAllowed(t, "by the rule", l, "ann", dn, name, right, want)
				}
			}
		}
	}
	if seen[true] < 1000 || seen[false] < 1000 {
		t.Errorf("the results were %v", seen)
	}
}

// Promise 13, for rules at every place of a list of ten.
func TestDecidingRuleIsAnywhere(t *testing.T) {
	dn := rdns("cn", "x", "ou", "y")
	idle := acl(
		allow("bob", impl.RtRead),
		allow("*", impl.RtWrite),
		allow("*", impl.RtRead, "cn", "phone"),
		on(rdns("ou", "z"), readAll()),
	)
	for at := range impl.MaxRules {
		for _, grants := range []bool{true, false} {
			var l []impl.Rule
			for i := range impl.MaxRules {
				rule := idle[(i+at)%len(idle)]
				rule.Allow = !grants
				if i >= at {
					rule = on(rdns("ou", "y"), allow("*", impl.RtRead, "mail"))
					rule.Allow = grants == (i == at)
				}
				l = append(l, rule)
			}
			wantAllowed(t, "the first of several that apply", l, "ann", dn, "mail", impl.RtRead, grants)
			wantAllowed(t, "none that applies", l[:at], "ann", dn, "mail", impl.RtRead, false)
		}
	}
}

// viewed returns the entry with the attributes that may be read, and whether it may be read itself.
func viewed(l []impl.Rule, who string, e impl.Entry) (impl.Entry, bool) {
	if !firstDecides(l, who, e.Dn, "", impl.RtRead) {
		return impl.Entry{}, false
	}
	out := impl.Entry{Dn: e.Dn}
	for _, a := range e.Attrs {
		if firstDecides(l, who, e.Dn, a.Name, impl.RtRead) {
			out.Attrs = append(out.Attrs, a)
		}
	}
	return out, true
}

// viewEntries returns entries under several DNs, with and without attributes.
func viewEntries() []impl.Entry {
	attrs := []impl.Attr{attr("class", "Person"), attr("cn", "a", "X"), attr("mail", "A@x", "b@x"), attr("phone", "1")}
	return []impl.Entry{
		{Dn: rdns("ou", "x"), Attrs: attrs},
		{Dn: rdns("cn", "A", "ou", " X")[:1], Attrs: attrs[2:]},
		{Dn: rdns("cn", "A", "ou", "x"), Attrs: attrs},
		{Dn: rdns("cn", "A", "ou", "x")},
		{Dn: rdns("cn", "b", "cn", "A", "ou", "X"), Attrs: attrs[1:3]},
	}
}

// Promise 14.
func TestViewHasExactlyTheAttributesThatMayBeRead(t *testing.T) {
	full, partial, denied := 0, 0, 0
	for _, l := range lawAcls() {
		for _, e := range viewEntries() {
			want, there := viewed(l, "ann", e)
			if !there {
				denied++
				wantNoView(t, "an entry that may not be read", l, "ann", e, impl.ErrDenied)
				continue
			}
			if len(want.Attrs) < len(e.Attrs) {
				partial++
			} else {
				full++
			}
			wantView(t, "the view", l, "ann", e, want)
		}
	}
	if full < 100 || partial < 100 || denied < 1000 {
		t.Errorf("%d full views, %d partial ones and %d denied", full, partial, denied)
	}
}

// Promise 14, for every choice of eight attributes.
func TestEveryChoiceOfAttributesIsViewed(t *testing.T) {
	e := person(manyAttrs(impl.MaxAttrs)...)
	for choice := range 1 << impl.MaxAttrs {
		var hidden []string
		want := person()
		for i, a := range e.Attrs {
			if choice>>i&1 == 1 {
				hidden = append(hidden, a.Name)
			} else {
				want.Attrs = append(want.Attrs, a)
			}
		}
		l := acl(readAll())
		if len(hidden) > 0 {
			l = acl(deny("*", impl.RtRead, hidden...), readAll())
		}
		wantView(t, "the view", l, "ann", e, want)
		for _, a := range e.Attrs {
			wantAllowed(t, "a denied attribute", l, "ann", e.Dn, a.Name, impl.RtRead, !slices.Contains(hidden, a.Name))
		}
	}
}

func TestViewOfResults(t *testing.T) {
	e := person(attr("cn", "Ann"), attr("mail", "B@x", "d@x"))
	wantView(t, "all attributes", acl(readAll()), "ann", e, e)
	wantView(t, "no attributes left", acl(deny("*", impl.RtRead, "cn", "mail"), readAll()), "ann", e, person())
	wantView(t, "no attributes at all", acl(readAll()), "ann", person(), person())
	wantView(t, "a rule on attributes that the entry lacks", acl(deny("*", impl.RtRead, "phone"), readAll()), "ann", e, e)
	wantView(t, "a denial that comes too late", acl(readAll(), deny("*", impl.RtRead)), "ann", e, e)
	wantView(t, "a denial of another right", acl(deny("*", impl.RtWrite), readAll()), "ann", e, e)
	for _, e := range validEntries() {
		wantView(t, "a valid entry", acl(readAll()), "ann", e, e)
	}
	for what, l := range map[string][]impl.Rule{
		"no rules":                     nil,
		"a denial":                     acl(deny("*", impl.RtRead)),
		"a denial before a permission": acl(deny("ann", impl.RtRead), readAll()),
		"a permission of attributes":   acl(allow("*", impl.RtRead, "cn", "mail")),
		"a permission of other rights": acl(writeAll(), allow("*", impl.RtAdd), allow("*", impl.RtDelete)),
		"a permission for another":     acl(allow("bob", impl.RtRead)),
		"a permission elsewhere":       acl(on(rdns("ou", "y"), readAll())),
		"attributes, then a denial":    acl(allow("*", impl.RtRead, "cn"), deny("*", impl.RtRead), readAll()),
	} {
		wantNoView(t, what, l, "ann", e, impl.ErrDenied)
	}
}

func TestViewOfErrors(t *testing.T) {
	e := person(attr("cn", "Ann"))
	right, none := acl(readAll()), acl(deny("*", impl.RtRead))
	for _, l := range invalidAcls() {
		for _, other := range []impl.Entry{e, {}} {
			wantNoView(t, "an invalid list", l, "ann", other, aclCode(l))
			wantNoView(t, "an invalid list and no name", l, "*", other, aclCode(l))
		}
	}
	for _, other := range invalidEntries() {
		wantNoView(t, "an invalid entry", right, "ann", other, impl.ErrForm)
		wantNoView(t, "an invalid entry that may not be read", none, "ann", other, impl.ErrForm)
		wantNoView(t, "an invalid entry without rules", nil, "ann", other, impl.ErrForm)
	}
	for _, who := range append(noNames(), "*", strings.Repeat("a", impl.MaxBytes)) {
		wantNoView(t, "no name", right, who, e, impl.ErrForm)
		wantNoView(t, "no name that may not read", none, who, e, impl.ErrForm)
		wantNoView(t, "no name without rules", nil, who, e, impl.ErrForm)
	}
	long := strings.Repeat("a", impl.MaxBytes+1)
	wantNoView(t, "a long name", right, long, e, impl.ErrSize)
	wantNoView(t, "a long name, an invalid list and an invalid entry", make([]impl.Rule, 1), long, impl.Entry{}, impl.ErrSize)
	wantNoView(t, "401 rules and an invalid entry", make([]impl.Rule, impl.MaxList+1), "ann", impl.Entry{}, impl.ErrSize)
	wantNoView(t, "400 rules and an invalid entry", make([]impl.Rule, impl.MaxList), "ann", impl.Entry{}, impl.ErrForm)
	wantNoView(t, "eleven rules that deny", repeated(none[0], impl.MaxRules+1), "ann", e, impl.ErrForm)
	wantNoView(t, "ten rules that deny", repeated(none[0], impl.MaxRules), "ann", e, impl.ErrDenied)
}

func TestVisibleEntries(t *testing.T) {
	ann := person(attr("cn", "Ann"), attr("mail", "a@x"))
	unit := impl.Entry{Dn: rdns("ou", "x"), Attrs: []impl.Attr{attr("ou", "x")}}
	other := impl.Entry{Dn: rdns("ou", "y"), Attrs: []impl.Attr{attr("mail", "m"), attr("ou", "y")}}
	entries := []impl.Entry{other, ann, unit, ann}
	wantVisible(t, "all", acl(readAll()), "ann", entries, entries...)
	wantVisible(t, "none by rule", acl(deny("*", impl.RtRead)), "ann", entries)
	wantVisible(t, "none without rules", nil, "ann", entries)
	wantVisible(t, "of none", acl(readAll()), "ann", nil)
	wantVisible(t, "all but one", acl(on(ann.Dn, deny("*", impl.RtRead)), readAll()), "ann", entries, other, unit)
	wantVisible(t, "all but the first", acl(on(rdns("ou", "x"), readAll())), "ann", entries, ann, unit, ann)
	wantVisible(t, "only the first", acl(on(rdns("ou", "y"), readAll())), "ann", entries, other)
	wantVisible(t, "those of another", acl(deny("ann", impl.RtRead), readAll()), "bob", entries, entries...)
	hidden := acl(deny("*", impl.RtRead, "mail", "ou"), readAll())
	bare := person(attr("cn", "Ann"))
	wantVisible(t, "without some attributes", hidden, "ann", entries, impl.Entry{Dn: other.Dn}, bare, impl.Entry{Dn: unit.Dn}, bare)
	for _, l := range lawAcls() {
		var want []impl.Entry
		for _, e := range viewEntries() {
			if view, there := viewed(l, "ann", e); there {
				want = append(want, view)
			}
		}
		wantVisible(t, "by the rule", l, "ann", viewEntries(), want...)
	}
}

func TestVisibleErrors(t *testing.T) {
	e := person(attr("cn", "Ann"))
	right, entries := acl(readAll()), []impl.Entry{e, e}
	wantVisible(t, "valid arguments", right, "ann", entries, e, e)
	for _, l := range invalidAcls() {
		wantVisible(t, "an invalid list", l, "ann", entries)
		wantVisible(t, "an invalid list without entries", l, "ann", nil)
	}
	for _, who := range append(noNames(), "*", strings.Repeat("a", impl.MaxBytes), strings.Repeat("a", impl.MaxBytes+1)) {
		wantVisible(t, "no name", right, who, entries)
		wantVisible(t, "no name without entries", right, who, nil)
	}
	for _, other := range invalidEntries() {
		wantVisible(t, "an invalid entry", right, "ann", []impl.Entry{other})
		wantVisible(t, "an invalid entry first", right, "ann", []impl.Entry{other, e})
		wantVisible(t, "an invalid entry last", right, "ann", []impl.Entry{e, e, other})
		denied := impl.Entry{Dn: rdns("cn", "Bob")}
		wantVisible(t, "an invalid entry behind one that may not be read", acl(on(e.Dn, readAll())), "ann", []impl.Entry{e, denied, other})
		wantVisible(t, "an invalid entry where nothing may be read", nil, "ann", []impl.Entry{e, other, e})
	}
	most := slices.Repeat([]impl.Entry{e}, impl.MaxList)
	wantVisible(t, "400 entries", right, "ann", most, most...)
	wantVisible(t, "401 entries", right, "ann", append(most, e))
}

func TestMayChangeResults(t *testing.T) {
	e := person(attr("cn", "Ann"), attr("mail", "a@x"))
	some := acl(deny("ann", impl.RtWrite, "mail"), on(rdns("ou", "x"), allow("*", impl.RtWrite, "cn", "mail")))
	all := acl(writeAll())
	for _, c := range []struct {
		what  string
		l     []impl.Rule
		who   string
		names []string
		want  bool
	}{
		{"no names", some, "ann", nil, true},
		{"no names and no rules", nil, "ann", nil, true},
		{"no names and a denial", acl(deny("*", impl.RtWrite)), "ann", []string{}, true},
		{"a name", some, "ann", list("cn"), true},
		{"a denied name", some, "ann", list("mail"), false},
		{"a denied name at the end", some, "ann", list("cn", "mail"), false},
		{"a denied name at the beginning", some, "ann", list("mail", "cn"), false},
		{"another user", some, "bob", list("mail", "cn"), true},
		{"a name twice", some, "bob", list("cn", "cn"), true},
		{"a denied name twice", some, "ann", list("mail", "mail"), false},
		{"a name to which no rule applies", some, "bob", list("cn", "mail", "phone"), false},
		{"names that the entry lacks", all, "ann", list("phone", "zz"), true},
		{"no rules", nil, "ann", list("cn"), false},
		{"a right to read", acl(readAll(), allow("*", impl.RtAdd), allow("*", impl.RtDelete)), "ann", list("cn"), false},
		{"a right elsewhere", acl(on(rdns("ou", "y"), writeAll())), "ann", list("cn"), false},
		{"only the entry's own right is missing", acl(allow("*", impl.RtWrite, "cn")), "ann", list("cn"), true},
		{"many names", all, "ann", manyNames(impl.MaxList), true},
		{"too many names", all, "ann", manyNames(impl.MaxList + 1), false},
		{"many names of which the last is denied", acl(deny("*", impl.RtWrite, "d1398"), writeAll()), "ann", manyNames(impl.MaxList), false},
	} {
		wantMayChange(t, c.what, c.l, c.who, e, c.names, c.want)
	}
	for _, l := range lawAcls() {
		cn, mail := firstDecides(l, "ann", e.Dn, "cn", impl.RtWrite), firstDecides(l, "ann", e.Dn, "mail", impl.RtWrite)
		wantMayChange(t, "by the rule", l, "ann", e, list("cn"), cn)
		wantMayChange(t, "by the rule", l, "ann", e, list("mail"), mail)
		wantMayChange(t, "by the rule", l, "ann", e, list("mail", "cn"), cn && mail)
	}
}

func TestMayChangeErrors(t *testing.T) {
	e := person(attr("cn", "Ann"))
	right := acl(writeAll())
	for _, names := range [][]string{nil, list("cn")} {
		wantMayChange(t, "valid arguments", right, "ann", e, names, true)
		wantMayChange(t, "ten rules", repeated(writeAll(), impl.MaxRules), "ann", e, names, true)
		wantMayChange(t, "eleven rules", repeated(writeAll(), impl.MaxRules+1), "ann", e, names, false)
		for _, rule := range wrongRules() {
			wantMayChange(t, "an invalid list", acl(writeAll(), rule), "ann", e, names, false)
		}
		for _, l := range invalidAcls() {
			wantMayChange(t, "an invalid list", l, "ann", e, names, false)
		}
		for _, other := range invalidEntries() {
			wantMayChange(t, "an invalid entry", right, "ann", other, names, false)
		}
		for _, who := range append(noNames(), "*", strings.Repeat("a", impl.MaxBytes), strings.Repeat("a", impl.MaxBytes+1)) {
			wantMayChange(t, "no name as user", right, who, e, names, false)
		}
	}
	for _, name := range append(noNames(), "*", strings.Repeat("a", impl.MaxBytes+1)) {
		for _, names := range [][]string{{name}, {"cn", name}, {name, "cn"}, {"cn", name, "mail"}} {
			wantMayChange(t, "no name", right, "ann", e, names, false)
		}
	}
}

// roomyAcl returns a copy of the list in which every list has spare room.
func roomyAcl(l []impl.Rule) []impl.Rule {
	out := make([]impl.Rule, 0, 20)
	for _, rule := range l {
		rule.Base = append(make([]impl.Rdn, 0, 10), rule.Base...)
		rule.Attrs = roomyNames(rule.Attrs)
		out = append(out, rule)
	}
	return out
}

func equalRule(a impl.Rule, b impl.Rule) bool {
	return a.Who == b.Who && slices.Equal(a.Base, b.Base) && slices.Equal(a.Attrs, b.Attrs) && a.Right == b.Right && a.Allow == b.Allow
}

// untouchedAcl reports whether the list and the spare room of its lists are as roomyAcl made them.
func untouchedAcl(l []impl.Rule, kept []impl.Rule) bool {
	texts := ""
	for _, rule := range l {
		spare := impl.Entry{Dn: rule.Base[len(rule.Base):cap(rule.Base)]}
		texts += strings.Join(textsOf(spare), "") + strings.Join(rule.Attrs[len(rule.Attrs):cap(rule.Attrs)], "")
	}
	for _, rule := range l[len(l):cap(l)] {
		texts += rule.Who
	}
	return slices.EqualFunc(l, kept, equalRule) && texts == ""
}

func TestAclResultsShareNoMemory(t *testing.T) {
	// The runtime has strings of one byte only once, so all are longer.
	dn := rdns("cn", "Ann", "ou", "xx")
	kept := acl(on(dn, deny("ann", impl.RtRead, "phone")), readAll(), writeAll())
	given := impl.Entry{Dn: dn, Attrs: []impl.Attr{attr("cn", "Ann"), attr("mail", "B@x", "d@x"), attr("phone", "12")}}
	l, e := roomyAcl(kept), roomy(given)
	entries := append(make([]impl.Entry, 0, 10), e, e)
	results := append(impl.Visible(l, "ann", entries), impl.ViewOf(l, "ann", e).Entry, impl.ViewOf(l, "bob", e).Entry)
	if len(results) != 4 || shareLists(impl.Visible(l, "bob", entries), entries) {
		t.Errorf("the results %q are not new ones", results)
	}
	for i, got := range results {
		if len(got.Attrs) < 2 || shareEntries(got, e) || shareLists(got.Dn, l[0].Base) {
			t.Errorf("the view %q shares memory with an argument", got)
		}
		for k, a := range got.Attrs {
			for _, b := range got.Attrs[:k] {
				if shareLists(a.Values, b.Values) {
					t.Errorf("lists of the view %q share memory", got)
				}
			}
		}
		for _, other := range results[:i] {
			if shareEntries(got, other) {
				t.Errorf("the views %q and %q share memory", got, other)
			}
		}
	}
	names := roomyNames(list("mail", "cn"))
	impl.AclRight(l)
	impl.Allowed(l, "ann", e.Dn, "cn", impl.RtRead)
	impl.MayChange(l, "ann", e, names)
	wantValues(t, "the given names", names, "mail", "cn")
	if !untouchedAcl(l, kept) || !untouched(e, given) || !equalEntry(entries[:3][2], impl.Entry{}) {
		t.Errorf("an argument was changed: %v, %q", l, e)
	}
}
