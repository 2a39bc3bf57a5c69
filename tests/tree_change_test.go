package tests

import (
	"slices"
	"strings"
	"testing"

	"loop.example/g00402/impl"
)

// newEntries returns an entry for each of lawDns, the root apart, and some that are not accepted.
func newEntries() []impl.Entry {
	var all []impl.Entry
	for _, dn := range lawDns()[1:] {
		text := impl.DnText(dn)
		all = append(all, placed(text), placed(text, attr("ou", "k", "X")), placed(text, attr("zz", "z")))
	}
	return append(all, wrongEntries()...)
}

// addCode is the rule for the code of TreeAdd for a valid tree and a valid entry.
func addCode(tree impl.Tree, e impl.Entry) int64 {
	switch {
	case placeOf(tree, e.Dn) >= 0:
		return impl.ErrThere
	case len(e.Dn) > 1 && placeOf(tree, e.Dn[1:]) < 0:
		return impl.ErrNone
	case impl.Check(tree.Schema, e) != impl.OK:
		return impl.ErrSchema
	case len(tree.Entries) == 20:
		return impl.ErrFull
	}
	return impl.OK
}

// Promise 15.
func TestAddedEntryIsThereUntilItIsDeleted(t *testing.T) {
	seen := make(map[int64]int)
	for _, tree := range lawTrees() {
		for _, e := range newEntries() {
			got, code := impl.TreeAdd(tree, e), addCode(tree, e)
			seen[code]++
			if code != impl.OK {
				wantTreeCode(t, "by the rule", got, code)
				continue
			}
			wantTree(t, "adding", got, plus(tree, e))
			wantEntry(t, "the added entry", impl.TreeGet(got.Tree, e.Dn), e, impl.OK)
			wantTreeCode(t, "adding again", impl.TreeAdd(got.Tree, e), impl.ErrThere)
			wantTree(t, "deleting", impl.TreeDelete(got.Tree, e.Dn), tree)
		}
	}
	for _, code := range []int64{impl.OK, impl.ErrThere, impl.ErrNone, impl.ErrSchema, impl.ErrFull} {
		if seen[code] < 5 {
			t.Errorf("the codes were %v", seen)
		}
	}
}

// Promise 15, the other way round.
func TestDeletedEntryIsGoneUntilItIsAdded(t *testing.T) {
	deleted, kept := 0, 0
	for _, tree := range lawTrees() {
		for _, e := range tree.Entries {
			got := impl.TreeDelete(tree, e.Dn)
			if hasBelow(tree, e.Dn) {
				kept++
				wantTreeCode(t, "deleting an entry above others", got, impl.ErrState)
				continue
			}
			deleted++
			wantTree(t, "deleting", got, minus(tree, e.Dn))
			wantEntryCode(t, "the deleted entry", impl.TreeGet(got.Tree, e.Dn), impl.ErrNone)
			wantTreeCode(t, "deleting again", impl.TreeDelete(got.Tree, e.Dn), impl.ErrNone)
			wantTree(t, "adding", impl.TreeAdd(got.Tree, e), tree)
		}
	}
	if deleted < 20 || kept < 5 {
		t.Errorf("%d entries were deleted, %d were not", deleted, kept)
	}
}

func TestTreeIsBuiltInAnyOrder(t *testing.T) {
	tree := impl.TreeNew(office())
	for _, i := range []int{3, 7, 4, 0, 2, 5, 6, 1} {
		e := mixedTree().Entries[i]
		if code := addCode(tree, e); code != impl.OK {
			t.Fatalf("%q can't be added: %d", e, code)
		}
		tree = impl.TreeAdd(tree, e).Tree
	}
	if !equalTree(tree, mixedTree()) {
		t.Errorf("the tree is %q", tree)
	}
}

func TestTreeAddErrors(t *testing.T) {
	full := wideTree(20)
	for _, e := range invalidEntries() {
		wantTreeCode(t, "an invalid entry", impl.TreeAdd(smallTree(), e), impl.ErrForm)
		wantTreeCode(t, "an invalid entry and no room", impl.TreeAdd(full, e), impl.ErrForm)
		wantTreeCode(t, "an invalid entry and no schema", impl.TreeAdd(impl.Tree{}, e), impl.ErrForm)
	}
	for _, e := range wrongEntries() {
		wantTreeCode(t, "an entry that is not accepted", impl.TreeAdd(smallTree(), e), impl.ErrSchema)
	}
	unknown := attr("zz", "z")
	for _, c := range []struct {
		what string
		tree impl.Tree
		e    impl.Entry
		code int64
	}{
		{"no room", full, placed("ou=v"), impl.ErrFull},
		{"no room below", full, placed("ou=v,ou=u10"), impl.ErrFull},
		{"the last room", wideTree(19), placed("ou=v"), impl.OK},
		{"the last depth", deepTree(5), placed(deepText(6)), impl.OK},
		{"there", smallTree(), placed("cn=low,cn=top"), impl.ErrThere},
		{"there, in another case", smallTree(), placed("cn=LOW,cn=Top"), impl.ErrThere},
		{"there, with more spaces", mixedTree(), placed("cn=A  B"), impl.ErrThere},
		{"there and not accepted", smallTree(), placed("cn=top", unknown), impl.ErrThere},
		{"there and no room", full, placed("ou=U10"), impl.ErrThere},
		{"there, not accepted and no room", full, placed("ou=u10", unknown), impl.ErrThere},
		{"no parent", smallTree(), placed("cn=x,cn=none"), impl.ErrNone},
		{"no parent in an empty tree", treeOf(), placed("cn=x,cn=none"), impl.ErrNone},
		{"no parent, but a grandparent", smallTree(), placed("cn=x,cn=none,cn=top"), impl.ErrNone},
		{"no parent, but its value", smallTree(), placed("cn=x,ou=top"), impl.ErrNone},
		{"the child as parent", smallTree(), placed("cn=top,cn=low"), impl.ErrNone},
		{"no parent and not accepted", smallTree(), placed("cn=x,cn=none", unknown), impl.ErrNone},
		{"no parent and no room", full, placed("ou=x,ou=none"), impl.ErrNone},
		{"not accepted and no room", full, placed("ou=v", unknown), impl.ErrSchema},
		{"no schema", impl.Tree{}, placed("ou=v"), impl.ErrSchema},
		{"a parent in another case", smallTree(), placed("cn=x,cn=LOW,cn=Top"), impl.OK},
		{"below the first", treeAt("cn=a"), placed("cn=0,cn=a"), impl.OK},
	} {
		if c.code != impl.OK {
			wantTreeCode(t, c.what, impl.TreeAdd(c.tree, c.e), c.code)
		} else {
			wantTree(t, c.what, impl.TreeAdd(c.tree, c.e), plus(c.tree, c.e))
		}
	}
}

func TestTreeDeleteErrors(t *testing.T) {
	for _, tree := range lawTrees() {
		for _, dn := range lawDns() {
			got := impl.TreeDelete(tree, dn)
			switch {
			case placeOf(tree, dn) < 0:
				wantTreeCode(t, "no entry", got, impl.ErrNone)
			case hasBelow(tree, dn):
				wantTreeCode(t, "an entry above others", got, impl.ErrState)
			default:
				wantTree(t, "an entry", got, minus(tree, dn))
			}
		}
		for _, dn := range invalidDns() {
			if len(dn) <= impl.MaxList {
				wantTreeCode(t, "an invalid DN", impl.TreeDelete(tree, dn), impl.ErrForm)
			}
		}
	}
	wantTreeCode(t, "the root above others", impl.TreeDelete(smallTree(), nil), impl.ErrNone)
	wantTreeCode(t, "the root of an empty tree", impl.TreeDelete(treeOf(), nil), impl.ErrNone)
	wantTreeCode(t, "a parent in another case", impl.TreeDelete(smallTree(), dnOf("cn=TOP")), impl.ErrState)
	wantTreeCode(t, "a grandparent", impl.TreeDelete(deepTree(3), dnOf("ou=d10")), impl.ErrState)
	wantTree(t, "an only entry", impl.TreeDelete(treeAt("cn=a"), dnOf("cn=a")), treeOf())
	wantTree(t, "an entry in another case", impl.TreeDelete(smallTree(), rdns("cn", "LOW", "cn", " Top ")), treeAt("cn=top"))
	wantTree(t, "an entry whose value others begin with", impl.TreeDelete(treeAt("cn=a", "cn=a b", "cn=ab"), dnOf("cn=a")), treeAt("cn=a b", "cn=ab"))
}

// modify is the rule for a valid modification of the attributes of an entry, by name.
func modify(values map[string][]string, m impl.Mod) int64 {
	old := values[m.Attr]
	if m.Kind == impl.MdSet {
		old = nil
		if len(m.Values) > 0 && len(values[m.Attr]) == 0 && len(values) == 8 {
			return impl.ErrFull
		}
	}
	for _, value := range m.Values {
		switch {
		case m.Kind == impl.MdDrop && !holds(old, value):
			return impl.ErrNone
		case m.Kind == impl.MdDrop:
			old = slices.DeleteFunc(slices.Clone(old), func(v string) bool { return holds(list(v), value) })
		case m.Kind == impl.MdAdd && holds(old, value):
			return impl.ErrThere
		case len(old) == 4 || len(values) == 8 && len(values[m.Attr]) == 0:
			return impl.ErrFull
		default:
			old = append(slices.Clone(old), value)
		}
	}
	delete(values, m.Attr)
	if len(old) > 0 {
		values[m.Attr] = slices.SortedFunc(slices.Values(old), func(a string, b string) int { return strings.Compare(impl.Norm(a), impl.Norm(b)) })
	}
	return impl.OK
}

// modifiedBy is the rule for the entry and the code of TreeModify, for valid arguments and as many modifications as there may be.
func modifiedBy(l []impl.Class, e impl.Entry, all []impl.Mod) (impl.Entry, int64) {
	values := make(map[string][]string)
	for _, a := range e.Attrs {
		values[a.Name] = a.Values
	}
	for _, m := range all {
		if code := modify(values, m); code != impl.OK {
			return impl.Entry{}, code
		}
	}
	out := impl.Entry{Dn: e.Dn}
	for name, list := range values {
		out.Attrs = append(out.Attrs, attr(name, list...))
	}
	slices.SortFunc(out.Attrs, byName)
	return out, impl.Check(l, out)
}

// lawMods returns modifications of every kind that have each of the possible results for some entry of mixedTree.
func lawMods() []impl.Mod {
	all := mods(mod(impl.MdSet, "cn"), mod(impl.MdSet, "mail"), mod(impl.MdSet, "ou"), mod(impl.MdAdd, "zz", "v"), mod(impl.MdDrop, "zz", "v"))
	for _, kind := range kinds() {
		all = append(all,
			mod(kind, "cn", "A"),
			mod(kind, "cn", "b", "a"),
			mod(kind, "cn", "k", " Y", "i"),
			mod(kind, "mail", "Z"),
			mod(kind, "mail", "a@X"),
			mod(kind, "ou", "x"),
			mod(kind, "ou", "m", "i", "l"),
			mod(kind, "class", "Unit"),
		)
	}
	return all
}

// Promise 16.
func TestModificationsChangeOnlyWhatTheyName(t *testing.T) {
	seen := make(map[int64]int)
	tree := mixedTree()
	for _, e := range tree.Entries {
		for _, first := range lawMods() {
			checkModified(t, tree, e, mods(first), seen)
			for _, second := range lawMods() {
				checkModified(t, tree, e, mods(first, second), seen)
			}
		}
	}
	for _, code := range []int64{impl.OK, impl.ErrThere, impl.ErrNone, impl.ErrFull, impl.ErrSchema} {
		if seen[code] < 50 {
			t.Errorf("the codes were %v", seen)
		}
	}
}

func checkModified(t *testing.T, tree impl.Tree, e impl.Entry, all []impl.Mod, seen map[int64]int) {
	t.Helper()
	got := impl.TreeModify(tree, e.Dn, all)
	want, code := modifiedBy(tree.Schema, e, all)
	seen[code]++
	if code != impl.OK {
		wantTreeCode(t, "by the rule", got, code)
		return
	}
	wantTree(t, "modifying", got, plus(minus(tree, e.Dn), want))
	for i, other := range got.Tree.Entries {
		if !impl.DnSame(other.Dn, e.Dn) && !equalEntry(other, tree.Entries[i]) {
			t.Errorf("%v of %q changed %q", all, e, other)
		}
	}
	changed := impl.TreeGet(got.Tree, e.Dn).Entry
	for _, name := range list("class", "cn", "mail", "ou", "zz") {
		named := slices.ContainsFunc(all, func(m impl.Mod) bool { return m.Attr == name })
		if !named && !equalAttr(attrNamed(changed, name), attrNamed(e, name)) {
			t.Errorf("%v of %q changed %s", all, e, name)
		}
	}
}

// fullEntry is cn=x with as many attributes as there can be, of which class, cn and those from d on are permitted by fullSchema.
func fullEntry() impl.Entry {
	return x(attr("class", "k"), attr("cn", "1", "2", "3", "x"), attr("d", "v"), attr("e", "v"), attr("f", "v"), attr("g", "v"), attr("h", "v"), attr("i", "v"))
}

func fullSchema() []impl.Class {
	return []impl.Class{{Name: "k", Must: list("cn"), May: list("d", "e", "f", "g", "h", "i", "j", "k")}}
}

func TestTreeModifyResults(t *testing.T) {
	tree, full := smallTree(), impl.Tree{Schema: fullSchema(), Entries: []impl.Entry{fullEntry()}}
	for _, c := range []struct {
		what string
		tree impl.Tree
		dn   string
		mods []impl.Mod
		want impl.Entry
	}{
		{"adding", tree, "cn=top", mods(mod(impl.MdAdd, "mail", "M")), placed("cn=top", attr("mail", "M"))},
		{"adding several", tree, "cn=top", mods(mod(impl.MdAdd, "ou", "c", "A", "b")), placed("cn=top", attr("ou", "A", "b", "c"))},
		{"setting", tree, "cn=top", mods(mod(impl.MdSet, "cn", "z", "TOP")), placed("cn=top", attr("cn", "TOP", "z"))},
		{"setting to nothing", mixedTree(), "cn=b,cn=a", mods(mod(impl.MdSet, "ou")), placed("cn=b,cn=A")},
		{"setting nothing to nothing", tree, "cn=top", mods(mod(impl.MdSet, "mail")), placed("cn=top")},
		{"dropping", mixedTree(), "cn=b,cn=a", mods(mod(impl.MdDrop, "ou", "K")), placed("cn=b,cn=A", attr("ou", "X"))},
		{"dropping all", mixedTree(), "cn=b,cn=a", mods(mod(impl.MdDrop, "ou", "x", "k")), placed("cn=b,cn=A")},
		{"the same DN", tree, "cn=LOW,cn=Top", mods(mod(impl.MdAdd, "mail", "m")), placed("cn=low,cn=top", attr("mail", "m"))},
		{"in order", tree, "cn=top", mods(mod(impl.MdAdd, "mail", "m"), mod(impl.MdDrop, "mail", "m"), mod(impl.MdSet, "mail", "n")), placed("cn=top", attr("mail", "n"))},
		{"what is not accepted in between", tree, "cn=top", mods(mod(impl.MdSet, "cn"), mod(impl.MdAdd, "zz", "v"), mod(impl.MdSet, "zz"), mod(impl.MdAdd, "cn", "Top")), placed("cn=top", attr("cn", "Top"))},
		{"ten", tree, "cn=top", slices.Repeat(mods(mod(impl.MdAdd, "mail", "m"), mod(impl.MdDrop, "mail", "m")), 5), placed("cn=top")},
		{"one for another of eight", full, "cn=x", mods(mod(impl.MdSet, "i"), mod(impl.MdSet, "j", "w")), x(append(fullEntry().Attrs[:7], attr("j", "w"))...)},
		{"one for another of four", full, "cn=x", mods(mod(impl.MdDrop, "cn", "1"), mod(impl.MdAdd, "cn", "0")), x(append([]impl.Attr{attr("class", "k"), attr("cn", "0", "2", "3", "x")}, fullEntry().Attrs[2:]...)...)},
	} {
		wantTree(t, c.what, impl.TreeModify(c.tree, dnOf(c.dn), c.mods), plus(minus(c.tree, dnOf(c.dn)), c.want))
	}
}

func TestTreeModifyErrors(t *testing.T) {
	tree, full := smallTree(), impl.Tree{Schema: fullSchema(), Entries: []impl.Entry{fullEntry()}}
	fine, there, missing, unknown := mod(impl.MdSet, "mail", "m"), mod(impl.MdAdd, "cn", "TOP"), mod(impl.MdDrop, "cn", "y"), mod(impl.MdSet, "zz", "v")
	for _, c := range []struct {
		what string
		tree impl.Tree
		dn   string
		mods []impl.Mod
		code int64
	}{
		{"no entry", tree, "cn=none", mods(fine), impl.ErrNone},
		{"no entry but one that begins so", tree, "cn=to", mods(fine), impl.ErrNone},
		{"the root", tree, "", mods(fine), impl.ErrNone},
		{"no entry in an empty tree", treeOf(), "cn=top", mods(fine), impl.ErrNone},
		{"no entry and no modifications", tree, "cn=none", nil, impl.ErrNone},
		{"no entry and eleven", tree, "cn=none", slices.Repeat(mods(fine), 11), impl.ErrNone},
		{"no entry and 400", tree, "cn=none", slices.Repeat(mods(fine), 400), impl.ErrNone},
		{"no entry and a value that is not there", tree, "cn=none", mods(there), impl.ErrNone},
		{"no modifications", tree, "cn=top", nil, impl.ErrForm},
		{"no modifications, not nil", tree, "cn=top", mods()[:0:0], impl.ErrForm},
		{"eleven", tree, "cn=top", slices.Repeat(mods(fine), 11), impl.ErrForm},
		{"400", tree, "cn=top", slices.Repeat(mods(fine), 400), impl.ErrForm},
		{"eleven of which the first has a code", tree, "cn=top", append(mods(there), slices.Repeat(mods(fine), 10)...), impl.ErrForm},
		{"ten of which the last has a code", tree, "cn=top", append(slices.Repeat(mods(fine), 9), there), impl.ErrThere},
		{"a value that is there", tree, "cn=top", mods(there), impl.ErrThere},
		{"a second value that is there", tree, "cn=top", mods(mod(impl.MdAdd, "cn", "x", "top")), impl.ErrThere},
		{"a value that was added", tree, "cn=top", mods(mod(impl.MdAdd, "mail", "m"), mod(impl.MdAdd, "mail", "M")), impl.ErrThere},
		{"a value that is missing", tree, "cn=top", mods(missing), impl.ErrNone},
		{"a second value that is missing", tree, "cn=top", mods(mod(impl.MdDrop, "cn", "top", "x")), impl.ErrNone},
		{"a value of a missing attribute", tree, "cn=top", mods(mod(impl.MdDrop, "mail", "m")), impl.ErrNone},
		{"a value that was dropped", tree, "cn=top", mods(mod(impl.MdDrop, "cn", "top"), mod(impl.MdDrop, "cn", "Top")), impl.ErrNone},
		{"a fifth value", full, "cn=x", mods(mod(impl.MdAdd, "cn", "y")), impl.ErrFull},
		{"a fifth value, the fourth added", full, "cn=x", mods(mod(impl.MdAdd, "d", "1", "2", "3", "4")), impl.ErrFull},
		{"a ninth attribute", full, "cn=x", mods(mod(impl.MdAdd, "j", "y")), impl.ErrFull},
		{"a ninth attribute, set", full, "cn=x", mods(mod(impl.MdSet, "j", "y")), impl.ErrFull},
		{"the first code counts: there", tree, "cn=top", mods(fine, there, missing), impl.ErrThere},
		{"the first code counts: none", tree, "cn=top", mods(fine, missing, there), impl.ErrNone},
		{"the first code counts: full", full, "cn=x", mods(mod(impl.MdSet, "j", "y"), missing), impl.ErrFull},
		{"a code behind what is not accepted", tree, "cn=top", mods(unknown, missing), impl.ErrNone},
		{"a code before what is not accepted", tree, "cn=top", mods(there, unknown), impl.ErrThere},
		{"an unknown attribute", tree, "cn=top", mods(unknown), impl.ErrSchema},
		{"no value of the DN", tree, "cn=top", mods(mod(impl.MdSet, "cn", "y")), impl.ErrSchema},
		{"no required attribute", tree, "cn=top", mods(mod(impl.MdDrop, "cn", "top")), impl.ErrSchema},
		{"no class", tree, "cn=top", mods(mod(impl.MdSet, "class")), impl.ErrSchema},
		{"another class", tree, "cn=top", mods(mod(impl.MdSet, "class", "unit")), impl.ErrSchema},
		{"two values of one", tree, "cn=top", mods(mod(impl.MdSet, "mail", "m", "n")), impl.ErrSchema},
	} {
		wantTreeCode(t, c.what, impl.TreeModify(c.tree, dnOf(c.dn), c.mods), c.code)
	}
	for _, dn := range invalidDns() {
		if len(dn) <= impl.MaxList {
			wantTreeCode(t, "an invalid DN", impl.TreeModify(tree, dn, mods(fine)), impl.ErrForm)
		}
	}
	for _, m := range invalidMods() {
		for _, dn := range list("cn=top", "cn=none") {
			wantTreeCode(t, "an invalid modification", impl.TreeModify(tree, dnOf(dn), mods(m)), impl.ErrForm)
			wantTreeCode(t, "an invalid one behind a code", impl.TreeModify(tree, dnOf(dn), mods(there, fine, m)), impl.ErrForm)
			wantTreeCode(t, "an invalid eleventh", impl.TreeModify(tree, dnOf(dn), append(slices.Repeat(mods(fine), 10), m)), impl.ErrForm)
		}
	}
}

// movedBy is the rule for the entry and the code of TreeMove for valid arguments.
func movedBy(tree impl.Tree, dn []impl.Rdn, rdn impl.Rdn, parent []impl.Rdn) (impl.Entry, int64) {
	at := placeOf(tree, dn)
	if at < 0 {
		return impl.Entry{}, impl.ErrNone
	}
	out := impl.Entry{Dn: append([]impl.Rdn{rdn}, parent...), Attrs: tree.Entries[at].Attrs}
	taken := placeOf(tree, out.Dn)
	values := attrNamed(out, rdn.Attr).Values
	switch {
	case hasBelow(tree, dn):
		return impl.Entry{}, impl.ErrState
	case len(parent) > 0 && (placeOf(tree, parent) < 0 || impl.DnSame(parent, dn)):
		return impl.Entry{}, impl.ErrNone
	case len(out.Dn) > 6:
		return impl.Entry{}, impl.ErrFull
	case taken >= 0 && taken != at:
		return impl.Entry{}, impl.ErrThere
	case holds(values, rdn.Value):
		return out, impl.Check(tree.Schema, out)
	case len(values) == 4 || len(values) == 0 && len(out.Attrs) == 8:
		return impl.Entry{}, impl.ErrFull
	}
	out = impl.ValueAdd(out, rdn.Attr, rdn.Value).Entry
	return out, impl.Check(tree.Schema, out)
}

// Promise 17.
func TestMovedEntryIsAtItsNewDn(t *testing.T) {
	seen := make(map[int64]int)
	for _, tree := range lawTrees() {
		for _, dn := range lawDns() {
			for _, rdn := range rdns("cn", "A", "cn", " New", "ou", "X", "ou", "New", "mail", "m") {
				for _, parent := range lawDns() {
					if len(parent) < 3 || placeOf(tree, parent) >= 0 {
						checkMoved(t, tree, dn, rdn, parent, seen)
					}
				}
			}
		}
	}
	for _, code := range []int64{impl.OK, impl.ErrNone, impl.ErrState, impl.ErrFull, impl.ErrThere, impl.ErrSchema} {
		if seen[code] < 5 {
			t.Errorf("the codes were %v", seen)
		}
	}
}

func checkMoved(t *testing.T, tree impl.Tree, dn []impl.Rdn, rdn impl.Rdn, parent []impl.Rdn, seen map[int64]int) {
	t.Helper()
	got := impl.TreeMove(tree, dn, rdn, parent)
	want, code := movedBy(tree, dn, rdn, parent)
	seen[code]++
	if code != impl.OK {
		wantTreeCode(t, "by the rule", got, code)
		return
	}
	wantTree(t, "moving", got, plus(minus(tree, dn), want))
	wantEntry(t, "the moved entry", impl.TreeGet(got.Tree, want.Dn), want, impl.OK)
	if !impl.DnSame(dn, want.Dn) {
		wantEntryCode(t, "the old DN", impl.TreeGet(got.Tree, dn), impl.ErrNone)
	}
	if len(got.Tree.Entries) != len(tree.Entries) {
		t.Errorf("%d of %d entries are left", len(got.Tree.Entries), len(tree.Entries))
	}
}

func TestTreeMoveResults(t *testing.T) {
	tree := mixedTree()
	full := impl.Tree{Schema: fullSchema(), Entries: []impl.Entry{fullEntry()}}
	for _, c := range []struct {
		what   string
		tree   impl.Tree
		dn     string
		rdn    []impl.Rdn
		parent string
		want   impl.Entry
	}{
		{"its own DN", tree, "cn=b,cn=a", rdns("cn", "b"), "cn=A", placed("cn=b,cn=A", attr("ou", "k", "X"))},
		{"its own DN in another case", tree, "cn=B,cn=a", rdns("cn", " B"), "cn=a", impl.Entry{Dn: rdns("cn", " B", "cn", "a"), Attrs: placed("cn=b", attr("ou", "k", "X")).Attrs}},
		{"the root", tree, "cn=b,cn=a", rdns("cn", "c"), "", placed("cn=c", attr("cn", "b", "c"), attr("ou", "k", "X"))},
		{"the root with its RDN", tree, "cn=b,cn=a", rdns("cn", "b"), "", placed("cn=b", attr("ou", "k", "X"))},
		{"another parent", tree, "cn=b,cn=a", rdns("cn", "c"), "ou=x", placed("cn=c,ou=x", attr("cn", "b", "c"), attr("ou", "k", "X"))},
		{"a parent in another case", tree, "cn=b,cn=a", rdns("cn", "b"), "cn=A B", placed("cn=b,cn=A B", attr("ou", "k", "X"))},
		{"below a sibling", tree, "cn=b,cn=a", rdns("cn", "d"), "cn=b,ou=x", placed("cn=d,cn=b,ou=x", attr("cn", "b", "d"), attr("ou", "k", "X"))},
		{"a value that it has", tree, "cn=b,cn=a", rdns("ou", "x"), "cn=a", impl.Entry{Dn: dnOf("ou=x,cn=a"), Attrs: placed("cn=b", attr("ou", "k", "X")).Attrs}},
		{"an attribute that it lacks", tree, "cn=a b", rdns("mail", "m"), "", impl.Entry{Dn: dnOf("mail=m"), Attrs: placed("cn=a b", attr("mail", "m")).Attrs}},
		{"a depth of six", deepTree(5), deepText(5), rdns("ou", "e"), deepText(4), placed("ou=e,"+deepText(4), attr("ou", "d14", "e"))},
		{"from six to six", deepTree(6), deepText(6), rdns("ou", "e"), deepText(5), placed("ou=e,"+deepText(5), attr("ou", "d15", "e"))},
		{"from one to six", plus(deepTree(5), placed("ou=z")), "ou=z", rdns("ou", "z"), deepText(5), placed("ou=z," + deepText(5))},
		{"the only entry", treeAt("cn=a"), "cn=a", rdns("cn", "B"), "", placed("cn=B", attr("cn", "a", "B"))},
		{"a fourth value that it has", full, "cn=x", rdns("cn", "3"), "", impl.Entry{Dn: dnOf("cn=3"), Attrs: fullEntry().Attrs}},
		{"a value of the eighth attribute", full, "cn=x", rdns("i", "w"), "", impl.Entry{Dn: dnOf("i=w"), Attrs: append(fullEntry().Attrs[:7], attr("i", "v", "w"))}},
		{"in a full tree", wideTree(20), "ou=u15", rdns("ou", "a"), "ou=u12", placed("ou=a,ou=u12", attr("ou", "a", "u15"))},
	} {
		wantTree(t, c.what, impl.TreeMove(c.tree, dnOf(c.dn), c.rdn[0], dnOf(c.parent)), plus(minus(c.tree, dnOf(c.dn)), c.want))
	}
}

func TestTreeMoveErrors(t *testing.T) {
	tree := plus(mixedTree(), placed("cn=c", attr("cn", "c", "d", "e", "f")))
	full := impl.Tree{Schema: fullSchema(), Entries: []impl.Entry{fullEntry(), {Dn: dnOf("cn=y"), Attrs: []impl.Attr{attr("class", "k"), attr("cn", "y")}}}}
	deep := plus(deepTree(6), placed("ou=z", attr("ou", "v", "w", "y", "z")))
	for _, c := range []struct {
		what   string
		tree   impl.Tree
		dn     string
		rdn    []impl.Rdn
		parent string
		code   int64
	}{
		{"no entry", tree, "cn=none", rdns("cn", "n"), "", impl.ErrNone},
		{"the root", tree, "", rdns("cn", "n"), "", impl.ErrNone},
		{"no entry in an empty tree", treeOf(), "cn=a", rdns("cn", "n"), "", impl.ErrNone},
		{"no entry and seven RDNs", deep, "ou=none", rdns("ou", "n"), deepText(6), impl.ErrNone},
		{"no entry and a DN that is there", tree, "cn=none", rdns("cn", "c"), "", impl.ErrNone},
		{"no entry and an unknown attribute", tree, "cn=none", rdns("zz", "n"), "", impl.ErrNone},
		{"an entry above others", tree, "cn=a", rdns("cn", "n"), "", impl.ErrState},
		{"an entry above others, to its own DN", tree, "cn=a", rdns("cn", "a"), "", impl.ErrState},
		{"an entry above others, in another case", tree, "ou=X", rdns("ou", "n"), "", impl.ErrState},
		{"an entry above others, below itself", tree, "cn=a", rdns("cn", "n"), "cn=a", impl.ErrState},
		{"an entry above others, below one of these", tree, "cn=a", rdns("cn", "n"), "cn=b,cn=a", impl.ErrState},
		{"an entry above others and no parent", tree, "cn=a", rdns("cn", "n"), "cn=none", impl.ErrState},
		{"an entry above others and seven RDNs", deep, "ou=d10", rdns("ou", "n"), deepText(6), impl.ErrState},
		{"an entry above others and a DN that is there", tree, "cn=a", rdns("cn", "c"), "", impl.ErrState},
		{"an entry above others and an unknown attribute", tree, "cn=a", rdns("zz", "n"), "", impl.ErrState},
		{"no parent", tree, "cn=c", rdns("cn", "c"), "cn=none", impl.ErrNone},
		{"no parent, but a grandparent", tree, "cn=c", rdns("cn", "c"), "cn=none,cn=a", impl.ErrNone},
		{"below itself", tree, "cn=c", rdns("cn", "c"), "cn=c", impl.ErrNone},
		{"below itself in another case", tree, "cn=c", rdns("cn", "c"), "cn=C", impl.ErrNone},
		{"far below itself", tree, "cn=c", rdns("cn", "c"), "cn=n,cn=c", impl.ErrNone},
		{"no parent and seven RDNs", deep, "ou=z", rdns("ou", "z"), "ou=n," + deepText(5), impl.ErrNone},
		{"below itself and seven RDNs", deep, deepText(6), rdns("ou", "n"), deepText(6), impl.ErrNone},
		{"no parent and a fifth value", tree, "cn=c", rdns("cn", "n"), "cn=none", impl.ErrNone},
		{"no parent and an unknown attribute", tree, "cn=c", rdns("zz", "n"), "cn=none", impl.ErrNone},
		{"seven RDNs", deep, "ou=z", rdns("ou", "z"), deepText(6), impl.ErrFull},
		{"seven RDNs and an unknown attribute", deep, "ou=z", rdns("zz", "z"), deepText(6), impl.ErrFull},
		{"a DN that is there", tree, "cn=c", rdns("cn", "A B"), "", impl.ErrThere},
		{"a DN that is there, below", tree, "cn=c", rdns("cn", "B"), "cn=a", impl.ErrThere},
		{"a DN that is there and a fifth value", tree, "cn=c", rdns("cn", "b"), "ou=X", impl.ErrThere},
		{"a DN that is there and is not accepted", tree, "cn=b,cn=a,ou=x", rdns("ou", "x"), "", impl.ErrThere},
		{"a fifth value", tree, "cn=c", rdns("cn", "n"), "", impl.ErrFull},
		{"a fifth value below", deep, "ou=z", rdns("ou", "n"), deepText(5), impl.ErrFull},
		{"a ninth attribute", full, "cn=x", rdns("j", "n"), "", impl.ErrFull},
		{"a ninth and unknown attribute", full, "cn=x", rdns("zz", "n"), "cn=y", impl.ErrFull},
		{"an unknown attribute", tree, "cn=c", rdns("zz", "n"), "", impl.ErrSchema},
		{"a second value of one", tree, "cn=b,cn=a,ou=x", rdns("mail", "n"), "", impl.ErrSchema},
		{"a second class", tree, "cn=c", rdns("class", "unit"), "", impl.ErrSchema},
	} {
		wantTreeCode(t, c.what, impl.TreeMove(c.tree, dnOf(c.dn), c.rdn[0], dnOf(c.parent)), c.code)
	}
	for _, dn := range invalidDns() {
		if len(dn) <= impl.MaxList {
			wantTreeCode(t, "an invalid DN", impl.TreeMove(tree, dn, impl.Rdn{Attr: "cn", Value: "n"}, nil), impl.ErrForm)
			wantTreeCode(t, "an invalid parent", impl.TreeMove(tree, dnOf("cn=c"), impl.Rdn{Attr: "cn", Value: "n"}, dn), impl.ErrForm)
			wantTreeCode(t, "no entry and an invalid parent", impl.TreeMove(tree, nil, impl.Rdn{Attr: "cn", Value: "n"}, dn), impl.ErrForm)
		}
		if len(dn) == 1 {
			wantTreeCode(t, "an invalid RDN", impl.TreeMove(tree, dnOf("cn=c"), dn[0], nil), impl.ErrForm)
			wantTreeCode(t, "no entry and an invalid RDN", impl.TreeMove(tree, nil, dn[0], nil), impl.ErrForm)
			wantTreeCode(t, "seven RDNs and an invalid one", impl.TreeMove(deep, dnOf("ou=z"), dn[0], dnOf(deepText(6))), impl.ErrForm)
		}
	}
}
