package tests

import (
	"math"
	"slices"
	"strings"
	"testing"

	"loop.example/g00402/impl"
)

// dnOf returns the DN of a text.
func dnOf(text string) []impl.Rdn {
	return impl.DnRead(text).Dn
}

func byName(a impl.Attr, b impl.Attr) int {
	return strings.Compare(a.Name, b.Name)
}

func byKey(a impl.Entry, b impl.Entry) int {
	return strings.Compare(impl.DnKey(a.Dn), impl.DnKey(b.Dn))
}

// office is the schema of most trees here.
func office() []impl.Class {
	return []impl.Class{
		{Name: "person", Must: list("cn"), May: list("mail", "ou"), Single: list("mail")},
		{Name: "unit", Must: list("ou"), May: list("cn")},
	}
}

// placed returns a person if the text begins with cn, and otherwise a unit, with the value of the DN and more attributes.
func placed(text string, attrs ...impl.Attr) impl.Entry {
	e := impl.Entry{Dn: dnOf(text)}
	class := attr("class", "unit")
	if e.Dn[0].Attr == "cn" {
		class = attr("class", "Person")
	}
	e.Attrs = append(slices.Clone(attrs), class)
	if !slices.ContainsFunc(attrs, func(a impl.Attr) bool { return a.Name == e.Dn[0].Attr }) {
		e.Attrs = append(e.Attrs, attr(e.Dn[0].Attr, e.Dn[0].Value))
	}
	slices.SortFunc(e.Attrs, byName)
	return e
}

// treeOf returns a tree of the office with these entries in order.
func treeOf(entries ...impl.Entry) impl.Tree {
	return impl.Tree{Schema: office(), Entries: slices.SortedFunc(slices.Values(entries), byKey)}
}

// treeAt returns a tree of the office with entries at these DNs.
func treeAt(texts ...string) impl.Tree {
	var entries []impl.Entry
	for _, text := range texts {
		entries = append(entries, placed(text))
	}
	return treeOf(entries...)
}

// plus returns the tree with one more entry.
func plus(t impl.Tree, e impl.Entry) impl.Tree {
	return impl.Tree{Schema: t.Schema, Entries: slices.SortedFunc(slices.Values(append(slices.Clone(t.Entries), e)), byKey)}
}

// minus returns the tree without the entry of a DN.
func minus(t impl.Tree, dn []impl.Rdn) impl.Tree {
	other := func(e impl.Entry) bool { return impl.DnSame(e.Dn, dn) }
	return impl.Tree{Schema: t.Schema, Entries: slices.DeleteFunc(slices.Clone(t.Entries), other)}
}

// wideTree returns a tree whose entries are, by halves, below the root and below ou=u10.
func wideTree(many int) impl.Tree {
	var texts []string
	for i, name := range numbered("u", many) {
		if i > many/2 {
			name += ",ou=u10"
		}
		texts = append(texts, "ou="+name)
	}
	return treeAt(texts...)
}

// deepText returns the text of the DN at this depth of deepTree.
func deepText(depth int) string {
	names := numbered("ou=d", depth)
	slices.Reverse(names)
	return strings.Join(names, ",")
}

// deepTree returns a tree in which each entry is below the one before.
func deepTree(depth int) impl.Tree {
	var texts []string
	for i := range depth {
		texts = append(texts, deepText(i+1))
	}
	return treeAt(texts...)
}

// mixedTree has siblings, values that begin with others, DNs that differ in case, and attributes of every kind.
func mixedTree() impl.Tree {
	return treeOf(
		placed("cn=a", attr("mail", "a@x")),
		placed("cn=a b"),
		placed("cn=b,cn=A", attr("ou", "k", "X")),
		placed("ou=x", attr("cn", "a", "Z")),
		placed("cn=A,ou=X", attr("mail", "z")),
		placed("cn=b,ou=x"),
		placed("ou=X,ou=x"),
		placed("cn=b,cn=a,ou=x", attr("mail", "B@x")),
	)
}

// smallTree is the one of the chapter's examples.
func smallTree() impl.Tree {
	return treeAt("cn=top", "cn=low,cn=top")
}

// lawTrees returns trees on which the functions are compared with the chapter's rules.
func lawTrees() []impl.Tree {
	return []impl.Tree{
		treeOf(), treeAt("cn=a"), treeAt("ou=X", "cn=B,ou=x"), smallTree(), mixedTree(), wideTree(19), wideTree(20),
		deepTree(6), plus(deepTree(6), placed("ou=x", attr("ou", "k", "l", "m", "X"))),
	}
}

// lawDns returns the root, DNs that entries of lawTrees have or could have, and some that they could not.
func lawDns() [][]impl.Rdn {
	all := [][]impl.Rdn{nil, dnOf(deepText(5)), dnOf(deepText(6)), dnOf("ou=U19"), dnOf("ou=u28,ou=u10"), dnOf("ou=u31,ou=u10"), dnOf("mail=a")}
	rdns := list("cn=A", "cn=b", "ou=x", "cn=a b")
	for _, first := range rdns {
		all = append(all, dnOf(first))
		for _, second := range rdns[:3] {
			all = append(all, dnOf(first+","+second), dnOf(first+","+second+",ou=X"))
		}
	}
	return all
}

func validTrees() []impl.Tree {
	all := append(lawTrees(), impl.Tree{}, impl.Tree{Schema: []impl.Class{}, Entries: []impl.Entry{}})
	for _, l := range validSchemas() {
		all = append(all, impl.Tree{Schema: l})
	}
	for many := range impl.MaxEntries {
		all = append(all, wideTree(many))
	}
	for depth := range impl.MaxRdns {
		all = append(all, deepTree(depth))
	}
	// The keys are in another order than the texts: a b is greater than whatever is below a.
	return append(all, impl.Tree{Schema: office(), Entries: []impl.Entry{placed("cn=a"), placed("cn=b,cn=a"), placed("cn=a b")}})
}

// unordered returns a tree of the office with these entries as they are given.
func unordered(entries ...impl.Entry) impl.Tree {
	return impl.Tree{Schema: office(), Entries: entries}
}

// wrongEntries returns entries cn=x that the schema of the office does not accept.
func wrongEntries() []impl.Entry {
	class, cn := attr("class", "person"), attr("cn", "x")
	return []impl.Entry{
		x(),
		x(cn),
		x(class),
		x(class, attr("cn", "y")),
		x(attr("class", "none"), cn),
		x(attr("class", "person", "unit"), cn),
		x(class, cn, attr("mail", "a", "b")),
		x(class, cn, attr("zz", "a")),
		x(attr("class", "unit"), cn),
	}
}

// invalidTrees returns trees that break one rule each.
func invalidTrees() []impl.Tree {
	top, low, other := placed("cn=top"), placed("cn=low,cn=top"), placed("cn=u")
	all := []impl.Tree{
		wideTree(21),
		wideTree(90),
		unordered(slices.Repeat([]impl.Entry{top}, impl.MaxList+1)...),
		unordered(low, top),
		unordered(other, top),
		unordered(top, other, low),
		unordered(top, top),
		unordered(top, placed("cn=TOP")),
		unordered(top, low, placed("cn=Low,cn=Top")),
		unordered(placed("cn=a"), placed("cn=a b"), placed("cn=b,cn=a")),
		unordered(low),
		unordered(placed("ou=top"), low),
		unordered(low, other),
		unordered(top, placed("cn=x,cn=low,cn=top")),
		unordered(placed("cn=b,cn=low"), top),
		unordered(append(deepTree(6).Entries[:4], deepTree(6).Entries[5])...),
		{Entries: []impl.Entry{top}},
		{Schema: classes("person"), Entries: []impl.Entry{top}},
		{Schema: []impl.Class{{}}, Entries: []impl.Entry{top}},
		{Schema: append(office(), office()...), Entries: []impl.Entry{top}},
	}
	for _, l := range invalidSchemas() {
		all = append(all, impl.Tree{Schema: l})
	}
	for _, e := range append(invalidEntries(), wrongEntries()...) {
		all = append(all, unordered(e), treeOf(top, low, e))
	}
	return all
}

func mod(kind int64, name string, values ...string) impl.Mod {
	return impl.Mod{Kind: kind, Attr: name, Values: values}
}

func mods(all ...impl.Mod) []impl.Mod {
	return all
}

func kinds() []int64 {
	return []int64{impl.MdAdd, impl.MdDrop, impl.MdSet}
}

func validMods() []impl.Mod {
	all := mods(mod(impl.MdSet, "mail"), impl.Mod{Kind: impl.MdSet, Attr: "mail", Values: []string{}})
	for _, kind := range kinds() {
		all = append(all,
			mod(kind, "a", "x"),
			mod(kind, "class", "x"),
			mod(kind, "a23456789_1234567890", strings.Repeat("v", 40)),
			mod(kind, "mail", "b", "A"),
			mod(kind, "mail", "a b", "ab", " a"),
			mod(kind, "mail", "4", "3", "2", "1"),
			mod(kind, "mail", "~", " !", strings.Repeat(" ", 39)+"x", "y"+strings.Repeat(" ", 39)),
		)
	}
	return all
}

// invalidMods returns modifications that break one rule each.
func invalidMods() []impl.Mod {
	all := mods(impl.Mod{}, mod(impl.MdAdd, "mail"), mod(impl.MdDrop, "mail"), impl.Mod{Kind: impl.MdAdd, Attr: "mail", Values: []string{}})
	for _, kind := range []int64{0, -1, 4, 5, -3, 256 + impl.MdAdd, 1<<32 + impl.MdSet, math.MaxInt64, math.MinInt64} {
		all = append(all, mod(kind, "mail", "x"), mod(kind, "mail"))
	}
	for _, kind := range kinds() {
		all = append(all,
			mod(kind, "mail", "1", "2", "3", "4", "5"),
			mod(kind, "mail", manyNames(impl.MaxList+1)...),
			mod(kind, "mail", "x", "x"),
			mod(kind, "mail", "x", "X"),
			mod(kind, "mail", "a b", "y", " A  B "),
			mod(kind, "mail", "1", "2", "3", "1"),
			mod(kind, strings.Repeat("a", impl.MaxBytes+1), "x"),
			mod(kind, "mail", strings.Repeat("v", impl.MaxBytes+1)),
		)
		for _, name := range noNames() {
			all = append(all, mod(kind, name, "x"))
		}
		for _, value := range improperValues() {
			all = append(all, mod(kind, "mail", value), mod(kind, "mail", "x", value), mod(kind, "mail", value, "x", "y", "z"))
		}
	}
	for _, name := range noNames() {
		all = append(all, mod(impl.MdSet, name))
	}
	return all
}

func noScopes() []int64 {
	return []int64{-1, 3, 4, -2, 256, 1 << 32, 1<<32 + impl.ScAll, math.MaxInt64, math.MinInt64}
}

func equalTree(a impl.Tree, b impl.Tree) bool {
	return slices.EqualFunc(a.Schema, b.Schema, equalClass) && slices.EqualFunc(a.Entries, b.Entries, equalEntry)
}

func wantTree(t *testing.T, what string, got impl.TreeOut, want impl.Tree) {
	t.Helper()
	if !equalTree(got.Tree, want) || len(got.Entries) > 0 || got.Code != impl.OK {
		t.Errorf("%s: the result is %v, want the tree %.900q", what, got, want)
	}
	if !impl.TreeRight(got.Tree) {
		t.Errorf("%s: %.900q is not valid", what, got.Tree)
	}
}

func wantTreeCode(t *testing.T, what string, got impl.TreeOut, code int64) {
	t.Helper()
	if !equalTree(got.Tree, impl.Tree{}) || len(got.Entries) > 0 || got.Code != code {
		t.Errorf("%s: the result is %v, want code %d", what, got, code)
	}
}

func wantEntries(t *testing.T, what string, got []impl.Entry, want ...impl.Entry) {
	t.Helper()
	if !slices.EqualFunc(got, want, equalEntry) {
		t.Errorf("%s: the entries are %.900q, want %.900q", what, got, want)
	}
}

func wantFound(t *testing.T, what string, got impl.TreeOut, want ...impl.Entry) {
	t.Helper()
	wantEntries(t, what, got.Entries, want...)
	if !equalTree(got.Tree, impl.Tree{}) || got.Code != impl.OK {
		t.Errorf("%s: the tree is %.900q with code %d", what, got.Tree, got.Code)
	}
}

// placeOf returns the index of the entry of a DN, or -1.
func placeOf(tree impl.Tree, dn []impl.Rdn) int {
	return slices.IndexFunc(tree.Entries, func(e impl.Entry) bool { return impl.DnSame(e.Dn, dn) })
}

// hasBelow reports whether an entry other than its own is under the DN.
func hasBelow(tree impl.Tree, dn []impl.Rdn) bool {
	return slices.ContainsFunc(tree.Entries, func(e impl.Entry) bool { return impl.DnUnder(e.Dn, dn) && !impl.DnSame(e.Dn, dn) })
}

func TestChapter8Examples(t *testing.T) {
	top, low := dnOf("cn=top"), dnOf("cn=low,cn=top")
	l := []impl.Class{{Name: "person", Must: list("cn"), May: list("mail")}}
	tree := impl.TreeAdd(impl.TreeAdd(impl.TreeNew(l), placed("cn=top")).Tree, placed("cn=low,cn=top")).Tree
	wantEntries(t, "the tree", tree.Entries, placed("cn=top"), placed("cn=low,cn=top"))
	wantTreeCode(t, "adding cn=TOP", impl.TreeAdd(tree, placed("cn=TOP")), impl.ErrThere)
	wantTreeCode(t, "adding without the parent", impl.TreeAdd(tree, placed("cn=x,cn=none")), impl.ErrNone)
	wantTreeCode(t, "deleting the parent", impl.TreeDelete(tree, top), impl.ErrState)
	moved := impl.TreeMove(tree, low, impl.Rdn{Attr: "cn", Value: "new"}, nil)
	wantEntries(t, "after moving", moved.Tree.Entries, placed("cn=new", attr("cn", "low", "new")), placed("cn=top"))
}

func TestChapter8Constants(t *testing.T) {
	got := []int64{impl.MaxEntries, impl.ScBase, impl.ScOne, impl.ScAll, impl.MdAdd, impl.MdDrop, impl.MdSet}
	if !slices.Equal(got, []int64{20, 0, 1, 2, 1, 2, 3}) {
		t.Errorf("the constants are %v", got)
	}
}

func TestModRight(t *testing.T) {
	for _, m := range validMods() {
		if !impl.ModRight(m) {
			t.Errorf("%v is not valid", m)
		}
	}
	for _, m := range invalidMods() {
		if impl.ModRight(m) {
			t.Errorf("%.200v is valid", m)
		}
	}
}

func TestTreeRight(t *testing.T) {
	for _, tree := range validTrees() {
		if !impl.TreeRight(tree) {
			t.Errorf("%q is not valid", tree)
		}
	}
	for _, tree := range invalidTrees() {
		if impl.TreeRight(tree) {
			t.Errorf("%.900q is valid", tree)
		}
	}
}

func TestTreeNew(t *testing.T) {
	for _, l := range append(validSchemas(), office()) {
		if got := impl.TreeNew(l); !equalTree(got, impl.Tree{Schema: l}) || !impl.TreeRight(got) {
			t.Errorf("the tree of %q is %q", l, got)
		}
	}
	for _, l := range invalidSchemas() {
		if got := impl.TreeNew(l); !equalTree(got, impl.Tree{}) {
			t.Errorf("the tree of %.300q is %q", l, got)
		}
	}
}

func TestInvalidTreeIsRejected(t *testing.T) {
	top, low, u := dnOf("cn=top"), dnOf("cn=low,cn=top"), impl.Rdn{Attr: "cn", Value: "w"}
	for _, tree := range invalidTrees() {
		for _, dn := range [][]impl.Rdn{nil, top, low, dnOf("cn=none"), chain(7), chain(impl.MaxList)} {
			wantEntryCode(t, "TreeGet", impl.TreeGet(tree, dn), impl.ErrForm)
			wantTreeCode(t, "TreeDelete", impl.TreeDelete(tree, dn), impl.ErrForm)
			wantTreeCode(t, "TreeModify", impl.TreeModify(tree, dn, mods(mod(impl.MdSet, "mail", "m"))), impl.ErrForm)
			wantTreeCode(t, "TreeModify without modifications", impl.TreeModify(tree, dn, nil), impl.ErrForm)
			wantTreeCode(t, "TreeMove", impl.TreeMove(tree, dn, u, nil), impl.ErrForm)
			wantTreeCode(t, "TreeMove to a DN", impl.TreeMove(tree, low, u, dn), impl.ErrForm)
			wantTreeCode(t, "TreeSearch", impl.TreeSearch(tree, dn, impl.ScAll, present("cn")), impl.ErrForm)
			wantTreeCode(t, "TreeSearch without a filter", impl.TreeSearch(tree, dn, impl.ScAll, nil), impl.ErrForm)
		}
		for _, e := range []impl.Entry{placed("cn=w"), placed("cn=top"), placed("cn=x,cn=none"), x(), {}} {
			wantTreeCode(t, "TreeAdd", impl.TreeAdd(tree, e), impl.ErrForm)
		}
	}
}

// listArguments calls every function that takes a list, once for each such argument, and all else given.
func listArguments(tree impl.Tree, dn []impl.Rdn, m []impl.Mod, f []impl.Node) []impl.TreeOut {
	out := []impl.TreeOut{{Code: impl.TreeGet(tree, dn).Code}}
	return append(out,
		impl.TreeDelete(tree, dn),
		impl.TreeModify(tree, dn, mods(mod(impl.MdSet, "mail", "m"))),
		impl.TreeModify(tree, dn, nil),
		impl.TreeModify(tree, nil, m),
		impl.TreeMove(tree, dn, impl.Rdn{Attr: "cn", Value: "w"}, nil),
		impl.TreeMove(tree, dnOf("cn=top"), impl.Rdn{Attr: "cn", Value: "w"}, dn),
		impl.TreeMove(tree, nil, impl.Rdn{}, dn),
		impl.TreeSearch(tree, dn, impl.ScAll, present("cn")),
		impl.TreeSearch(tree, dn, 3, nil),
		impl.TreeSearch(tree, nil, impl.ScAll, f),
		impl.TreeSearch(tree, chain(7), 3, f),
	)
}

func TestTreeSizeLimits(t *testing.T) {
	for _, tree := range []impl.Tree{smallTree(), treeOf(), wideTree(21), unordered(x())} {
		for _, got := range listArguments(tree, chain(impl.MaxList+1), make([]impl.Mod, impl.MaxList+1), make([]impl.Node, impl.MaxList+1)) {
			wantTreeCode(t, "a list of 401", got, impl.ErrSize)
		}
		for _, got := range listArguments(tree, chain(impl.MaxList), make([]impl.Mod, impl.MaxList), make([]impl.Node, impl.MaxList)) {
			wantTreeCode(t, "a list of 400", got, impl.ErrForm)
		}
	}
	// What is a field of a struct is invalid and not too long.
	long := strings.Repeat("v", impl.MaxBytes+1)
	tree, top := smallTree(), dnOf("cn=top")
	wantEntryCode(t, "401 entries", impl.TreeGet(unordered(make([]impl.Entry, impl.MaxList+1)...), top), impl.ErrForm)
	wantTreeCode(t, "401 attributes", impl.TreeAdd(tree, person(manyAttrs(impl.MaxList+1)...)), impl.ErrForm)
	wantTreeCode(t, "401 RDNs of an entry", impl.TreeAdd(tree, impl.Entry{Dn: chain(impl.MaxList + 1)}), impl.ErrForm)
	wantTreeCode(t, "401 values", impl.TreeModify(tree, top, mods(mod(impl.MdSet, "mail", manyNames(impl.MaxList+1)...))), impl.ErrForm)
	wantTreeCode(t, "a long value", impl.TreeModify(tree, top, mods(mod(impl.MdSet, "mail", long))), impl.ErrForm)
	wantTreeCode(t, "a long RDN", impl.TreeMove(tree, top, impl.Rdn{Attr: "cn", Value: long}, nil), impl.ErrForm)
	wantTreeCode(t, "a long attribute of an RDN", impl.TreeMove(tree, top, impl.Rdn{Attr: long, Value: "w"}, nil), impl.ErrForm)
	wantTreeCode(t, "a long base", impl.TreeSearch(tree, rdns("cn", long), impl.ScAll, present("cn")), impl.ErrForm)
	wantTreeCode(t, "a long filter", impl.TreeSearch(tree, nil, impl.ScAll, equal("cn", long)), impl.ErrForm)
}

func TestTreeGet(t *testing.T) {
	for _, tree := range lawTrees() {
		for _, e := range tree.Entries {
			wantEntry(t, "an entry", impl.TreeGet(tree, e.Dn), e, impl.OK)
		}
		for _, dn := range lawDns() {
			if at := placeOf(tree, dn); at >= 0 {
				wantEntry(t, "an entry", impl.TreeGet(tree, dn), tree.Entries[at], impl.OK)
			} else {
				wantEntryCode(t, "no entry", impl.TreeGet(tree, dn), impl.ErrNone)
			}
		}
		for _, dn := range invalidDns() {
			if len(dn) <= impl.MaxList {
				wantEntryCode(t, "an invalid DN", impl.TreeGet(tree, dn), impl.ErrForm)
			}
		}
	}
	same := rdns("cn", " A", "ou", "X ")
	wantEntry(t, "a DN that is the same", impl.TreeGet(mixedTree(), same), placed("cn=A,ou=X", attr("mail", "z")), impl.OK)
	for _, text := range list("cn=to", "cn=topp", "cn=low", "ou=top", "cn=top,cn=low", "cn=lo,cn=top", "cn=top,cn=top", "cn=low,cn=low,cn=top") {
		wantEntryCode(t, text, impl.TreeGet(smallTree(), dnOf(text)), impl.ErrNone)
	}
	wantEntryCode(t, "the root", impl.TreeGet(smallTree(), []impl.Rdn{}), impl.ErrNone)
}

// inScope is the rule for the scopes.
func inScope(dn []impl.Rdn, base []impl.Rdn, scope int64) bool {
	key, start := impl.DnKey(dn), impl.DnKey(base)
	below := strings.HasPrefix(key+"\x01", start+"\x01") || start == ""
	depth := len(dn) - len(base)
	return below && (depth == 0 || depth == 1 && scope == impl.ScOne || scope == impl.ScAll) && (depth != 0 || scope != impl.ScOne)
}

// searchFilters returns filters with each of the three results for some entries of mixedTree.
func searchFilters() [][]impl.Node {
	return [][]impl.Node{
		present("class"), present("mail"), noneOf(present("mail")), equal("cn", "B"), leaf(impl.FlBegins, "mail", "a"),
		leaf(impl.FlAtLeast, "cn", "b"), leaf(impl.FlAtMost, "ou", "k"), allOf(present("cn"), present("ou")), anyOf(equal("cn", "z"), present("mail")),
		present("zz"), noneOf(present("zz")), anyOf(present("zz"), present("mail")), allOf(present("zz"), present("mail")),
	}
}

// Promise 18.
func TestSearchResultsAreInTheScopeAndSatisfyTheFilter(t *testing.T) {
	seen := make(map[int]int)
	for _, tree := range lawTrees() {
		known := list("class", "cn", "mail", "ou")
		for _, base := range lawDns() {
			for _, scope := range []int64{impl.ScBase, impl.ScOne, impl.ScAll} {
				for _, f := range searchFilters() {
					got := impl.TreeSearch(tree, base, scope, f)
					if len(base) > 0 && placeOf(tree, base) < 0 {
						wantTreeCode(t, "no base", got, impl.ErrNone)
						continue
					}
					var want []impl.Entry
					for _, e := range tree.Entries {
						if inScope(e.Dn, base, scope) && impl.FilterEval(f, e, known) == impl.True {
							want = append(want, e)
						}
					}
					seen[min(len(want), 3)]++
					wantFound(t, "searching", got, want...)
				}
				checkPages(t, impl.TreeSearch(tree, base, scope, present("class")).Entries)
			}
		}
	}
	if seen[0] < 20 || seen[1] < 20 || seen[2] < 20 || seen[3] < 20 {
		t.Errorf("the numbers of results were %v", seen)
	}
}

// checkPages tests that the pages of every size contain all entries.
func checkPages(t *testing.T, l []impl.Entry) {
	t.Helper()
	for size := range impl.MaxEntries {
		var all []impl.Entry
		for len(all) < len(l) {
			page := impl.PageOf(l, int64(len(all)), int64(size+1))
			if len(page) != min(size+1, len(l)-len(all)) {
				t.Fatalf("the page of size %d at %d of %d has %d entries", size+1, len(all), len(l), len(page))
			}
			all = append(all, page...)
		}
		wantEntries(t, "all pages", all, l...)
		wantEntries(t, "behind the last page", impl.PageOf(l, int64(len(all)), int64(size+1)))
	}
}

func TestTreeSearchResults(t *testing.T) {
	tree := mixedTree()
	a, ax, bx, xx, bax := tree.Entries[0], placed("cn=A,ou=X", attr("mail", "z")), placed("cn=b,ou=x"), placed("ou=X,ou=x"), placed("cn=b,cn=a,ou=x", attr("mail", "B@x"))
	unit, all := placed("ou=x", attr("cn", "a", "Z")), present("class")
	for _, c := range []struct {
		what  string
		base  string
		scope int64
		f     []impl.Node
		want  []impl.Entry
	}{
		{"the root itself", "", impl.ScBase, all, nil},
		{"the top entries", "", impl.ScOne, all, []impl.Entry{a, placed("cn=a b"), unit}},
		{"the whole tree", "", impl.ScAll, all, tree.Entries},
		{"an entry itself", "ou=X", impl.ScBase, all, []impl.Entry{unit}},
		{"its children", "ou=X", impl.ScOne, all, []impl.Entry{ax, bx, xx}},
		{"itself and all below", "ou=X", impl.ScAll, all, []impl.Entry{unit, ax, bax, bx, xx}},
		{"no children", "cn=a b", impl.ScOne, all, nil},
		{"nothing below", "cn=A B", impl.ScAll, all, []impl.Entry{placed("cn=a b")}},
		{"none of several", "ou=x", impl.ScAll, equal("cn", "none"), nil},
		{"some of several", "ou=x", impl.ScAll, present("mail"), []impl.Entry{ax, bax}},
		{"an attribute that only the other class has", "ou=x", impl.ScAll, noneOf(present("mail")), []impl.Entry{unit, bx, xx}},
		{"an attribute that is unknown", "", impl.ScAll, noneOf(present("uid")), nil},
		{"the class", "ou=x", impl.ScOne, equal("class", "PERSON"), []impl.Entry{ax, bx}},
	} {
		wantFound(t, c.what, impl.TreeSearch(tree, dnOf(c.base), c.scope, c.f), c.want...)
	}
	for _, scope := range []int64{impl.ScBase, impl.ScOne, impl.ScAll} {
		wantFound(t, "an empty tree", impl.TreeSearch(treeOf(), nil, scope, all))
		wantFound(t, "an empty tree without a schema", impl.TreeSearch(impl.Tree{}, nil, scope, all))
	}
}

func TestTreeSearchErrors(t *testing.T) {
	tree := smallTree()
	for _, base := range [][]impl.Rdn{nil, dnOf("cn=top"), dnOf("cn=none")} {
		for _, scope := range noScopes() {
			wantTreeCode(t, "another scope", impl.TreeSearch(tree, base, scope, present("cn")), impl.ErrForm)
		}
		for _, f := range invalidFilters() {
			if len(f) <= impl.MaxList {
				wantTreeCode(t, "an invalid filter", impl.TreeSearch(tree, base, impl.ScAll, f), impl.ErrForm)
			}
		}
		wantTreeCode(t, "no filter", impl.TreeSearch(tree, base, impl.ScAll, nil), impl.ErrForm)
		wantTreeCode(t, "no filter and another scope", impl.TreeSearch(tree, base, 3, nil), impl.ErrForm)
	}
	for _, scope := range []int64{impl.ScBase, impl.ScOne, impl.ScAll} {
		for _, base := range invalidDns() {
			if len(base) <= impl.MaxList {
				wantTreeCode(t, "an invalid base", impl.TreeSearch(tree, base, scope, present("cn")), impl.ErrForm)
			}
		}
		for _, text := range list("cn=none", "cn=to", "cn=low", "ou=top", "cn=x,cn=top", "cn=x,cn=low,cn=top") {
			wantTreeCode(t, "no base", impl.TreeSearch(tree, dnOf(text), scope, present("cn")), impl.ErrNone)
			wantTreeCode(t, "no base in an empty tree", impl.TreeSearch(treeOf(), dnOf(text), scope, present("cn")), impl.ErrNone)
		}
	}
}

func TestPageOf(t *testing.T) {
	l := wideTree(20).Entries
	for many := range impl.MaxEntries + 1 {
		for from := int64(-2); from < 23; from++ {
			for size := int64(-2); size < 23; size++ {
				var want []impl.Entry
				for i, e := range l[:many] {
					if from >= 0 && int64(i) >= from && int64(i) < from+size && size <= 20 {
						want = append(want, e)
					}
				}
				wantEntries(t, "a page", impl.PageOf(l[:many], from, size), want...)
			}
		}
	}
	for _, size := range []int64{1, 2, 20} {
		for _, from := range []int64{math.MaxInt64, math.MaxInt64 - 1, 1 << 32, 1 << 62, math.MinInt64, -1 << 32} {
			wantEntries(t, "from far away", impl.PageOf(l, from, size))
		}
	}
	for _, size := range []int64{math.MaxInt64, math.MinInt64, 1 << 32, 1<<32 + 1, 256 + 1, -1} {
		wantEntries(t, "another size", impl.PageOf(l, 0, size))
	}
	wantEntries(t, "21 entries", impl.PageOf(wideTree(21).Entries, 0, 20))
	wantEntries(t, "21 entries from the last on", impl.PageOf(wideTree(21).Entries, 20, 1))
	wantEntries(t, "400 entries", impl.PageOf(make([]impl.Entry, impl.MaxList), 0, 1))
	wantEntries(t, "401 entries", impl.PageOf(make([]impl.Entry, impl.MaxList+1), 0, 1))
	wantEntries(t, "no entries", impl.PageOf(nil, 0, 1))
	// The chapter does not ask that the entries be valid or in order.
	odd := []impl.Entry{l[3], {}, l[0], l[3], x(attr("cn"))}
	wantEntries(t, "other entries", impl.PageOf(odd, 1, 3), odd[1:4]...)
	wantEntries(t, "all other entries", impl.PageOf(odd, 0, 20), odd...)
}

// roomyTree returns a copy of the tree in which every list has spare room.
func roomyTree(tree impl.Tree) impl.Tree {
	out := impl.Tree{Schema: roomySchema(tree.Schema), Entries: make([]impl.Entry, 0, 30)}
	for _, e := range tree.Entries {
		out.Entries = append(out.Entries, roomy(e))
	}
	return out
}

// untouchedTree reports whether the tree and the spare room of its lists are as roomyTree made them.
func untouchedTree(tree impl.Tree, kept impl.Tree) bool {
	for i, e := range tree.Entries {
		if !untouched(e, kept.Entries[i]) {
			return false
		}
	}
	for _, e := range tree.Entries[len(tree.Entries):cap(tree.Entries)] {
		if !equalEntry(e, impl.Entry{}) {
			return false
		}
	}
	return len(tree.Entries) == len(kept.Entries) && untouchedSchema(tree.Schema, kept.Schema)
}

// classLists returns all lists of names of a schema.
func classLists(l []impl.Class) [][]string {
	var out [][]string
	for _, c := range l {
		out = append(out, c.Must, c.May, c.Single)
	}
	return out
}

// shareTrees reports whether two trees share memory.
func shareTrees(a impl.Tree, b impl.Tree) bool {
	if shareLists(a.Schema, b.Schema) || shareLists(a.Entries, b.Entries) || shareTexts(schemaTexts(a.Schema), schemaTexts(b.Schema)) {
		return true
	}
	for _, first := range classLists(a.Schema) {
		for _, second := range classLists(b.Schema) {
			if shareLists(first, second) {
				return true
			}
		}
	}
	for _, first := range a.Entries {
		for _, second := range b.Entries {
			if shareEntries(first, second) {
				return true
			}
		}
	}
	return false
}

// repeats reports whether two lists of a tree share memory.
func repeats(tree impl.Tree) bool {
	lists := classLists(tree.Schema)
	for _, e := range tree.Entries {
		for _, a := range e.Attrs {
			lists = append(lists, a.Values)
		}
	}
	for i, l := range lists {
		if slices.ContainsFunc(lists[:i], func(other []string) bool { return shareLists(l, other) }) {
			return true
		}
	}
	for i, e := range tree.Entries {
		if slices.ContainsFunc(tree.Entries[:i], func(other impl.Entry) bool { return shareEntries(e, other) }) {
			return true
		}
	}
	return false
}

func TestTreeResultsShareNoMemory(t *testing.T) {
	// The runtime has strings of one byte only once, so all are longer.
	l := []impl.Class{{Name: "person", Must: list("cn"), May: list("mail", "ou"), Single: list("mail")}, {Name: "unit", Must: list("ou"), May: list("cn")}}
	kept := impl.Tree{Schema: l, Entries: []impl.Entry{placed("ou=xx"), placed("cn=Ann,ou=XX", attr("mail", "B@x")), placed("cn=Bob,ou=xx"), placed("ou=yy")}}
	tree := roomyTree(kept)
	newcomer := placed("cn=Eve,ou=yy", attr("mail", "ee"))
	added := roomy(newcomer)
	dn, parent := dnOf("cn=ANN,ou=xx"), append(make([]impl.Rdn, 0, 10), dnOf("ou=YY")...)
	rdn := impl.Rdn{Attr: "cn", Value: "New"}
	changes := mods(mod(impl.MdAdd, "ou", roomyNames(list("zz", "YY"))...), mod(impl.MdDrop, "mail", "b@X"), mod(impl.MdSet, "mail", "cc"))
	given := append(append(textsOf(added), textsOf(impl.Entry{Dn: append(append(parent[:1:1], rdn), dn...)})...), "zz", "YY")
	results := map[string]impl.Tree{
		"TreeNew":                 impl.TreeNew(tree.Schema),
		"TreeGet":                 {Entries: []impl.Entry{impl.TreeGet(tree, dn).Entry}},
		"TreeAdd":                 impl.TreeAdd(tree, added).Tree,
		"TreeDelete":              impl.TreeDelete(tree, dn).Tree,
		"TreeModify":              impl.TreeModify(tree, dn, changes).Tree,
		"TreeModify with nothing": impl.TreeModify(tree, dn, mods(mod(impl.MdSet, "zz"))).Tree,
		"TreeMove":                impl.TreeMove(tree, dn, rdn, parent).Tree,
		"TreeMove to its own DN":  impl.TreeMove(tree, dn, dn[0], dn[1:]).Tree,
		"TreeSearch":              {Entries: impl.TreeSearch(tree, nil, impl.ScAll, present("class")).Entries},
		"PageOf":                  {Entries: impl.PageOf(tree.Entries, 1, 2)},
		"PageOf of all":           {Entries: impl.PageOf(tree.Entries, 0, 20)},
		"PageOf of one twice":     {Entries: impl.PageOf([]impl.Entry{added, added}, 0, 20)},
	}
	for what, got := range results {
		if len(got.Schema)+len(got.Entries) == 0 || shareTrees(got, tree) || repeats(got) {
			t.Errorf("%s: %q shares memory with the tree or within itself", what, got)
		}
		for _, e := range got.Entries {
			if len(e.Dn) == 0 || shareEntries(e, added) || shareTexts(textsOf(e), given) || shareLists(e.Dn, parent) || shareLists(e.Dn, dn) {
				t.Errorf("%s: %q is none or shares memory with an argument", what, e)
			}
			if slices.ContainsFunc(e.Attrs, func(a impl.Attr) bool { return shareLists(a.Values, changes[0].Values) }) {
				t.Errorf("%s: %q shares memory with a modification", what, e)
			}
		}
	}
	impl.TreeRight(tree)
	impl.ModRight(changes[0])
	wantValues(t, "the values of a modification", changes[0].Values[:3], "zz", "YY", "")
	if !untouchedTree(tree, kept) || !untouched(added, newcomer) || !slices.Equal(parent[:2], []impl.Rdn{{Attr: "ou", Value: "YY"}, {}}) {
		t.Errorf("an argument was changed: %q, %q, %q", tree, added, parent)
	}
}
