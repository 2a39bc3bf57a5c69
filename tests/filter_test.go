package tests

import (
	"math"
	"slices"
	"strconv"
	"strings"
	"testing"

	"loop.example/g00402/impl"
)

// leaf returns the filter of one node without operands.
func leaf(op int64, attr string, value string) []impl.Node {
	return []impl.Node{{Op: op, Attr: attr, Value: value}}
}

func equal(attr string, value string) []impl.Node {
	return leaf(impl.FlEqual, attr, value)
}

func present(attr string) []impl.Node {
	return leaf(impl.FlPresent, attr, "")
}

// operator returns the operator before its operands.
func operator(op int64, operands ...[]impl.Node) []impl.Node {
	head := []impl.Node{{Op: op, Many: int64(len(operands))}}
	return append(head, slices.Concat(operands...)...)
}

func allOf(operands ...[]impl.Node) []impl.Node {
	return operator(impl.FlAnd, operands...)
}

func anyOf(operands ...[]impl.Node) []impl.Node {
	return operator(impl.FlOr, operands...)
}

func noneOf(operand []impl.Node) []impl.Node {
	return operator(impl.FlNot, operand)
}

// wide returns an operator with as many operands as make a filter of this many nodes.
func wide(op int64, nodes int) []impl.Node {
	var operands [][]impl.Node
	for i := range nodes - 1 {
		operands = append(operands, equal("a"+strconv.Itoa(i%7), "v"+strconv.Itoa(i)))
	}
	return operator(op, operands...)
}

// deep returns a condition below as many operators as make a filter of this depth.
func deep(op int64, depth int) []impl.Node {
	f := equal("a", "x")
	for range depth - 1 {
		f = operator(op, f)
	}
	return f
}

// conditions returns all five kinds of nodes without operands, with every edge that the chapter names.
func conditions() [][]impl.Node {
	all := [][]impl.Node{present("cn"), present("a23456789_1234567890")}
	values := []string{
		"x", "a*", "*", "**", "(", ")", "()", `\`, `\\`, `\2a`, `\5c`, `\28\29`, "2a", "(&(a=b))", "a=b", "=", ">=", "<=",
		">", "<", "=*", "&", "|", "!", " x", "x ", "a  B", "~", ",", "\"", strings.Repeat("v", 40), strings.Repeat(`\`, 40),
		strings.Repeat("*", 40), strings.Repeat(" ", 39) + "x",
	}
	for _, value := range values {
		for _, op := range []int64{impl.FlEqual, impl.FlBegins, impl.FlAtLeast, impl.FlAtMost} {
			all = append(all, leaf(op, "cn", value))
		}
	}
	return all
}

// validFilters returns filters with every edge that the chapter names.
func validFilters() [][]impl.Node {
	all := append(conditions(),
		allOf(equal("cn", "a*"), noneOf(leaf(impl.FlBegins, "uid", "1"))),
		allOf(equal("a", "x")),
		anyOf(equal("a", "x")),
		noneOf(equal("a", "x")),
		noneOf(noneOf(present("a"))),
		allOf(anyOf(present("a"), present("b")), noneOf(present("c")), equal("d", "e")),
		anyOf(present("a"), allOf(present("b"), noneOf(present("c"))), allOf(present("b"))),
		allOf(allOf(allOf(allOf(present("a")), present("b")), present("c")), present("d")),
		allOf(present("a"), allOf(present("b"), allOf(present("c"), allOf(present("d"))))),
		equal("a23456789_1234567890", "x"),
		equal("a", "x"), equal("a_9", "x"), equal("class", "person"),
	)
	for _, op := range []int64{impl.FlAnd, impl.FlOr} {
		for nodes := 2; nodes <= impl.MaxNodes; nodes++ {
			all = append(all, wide(op, nodes))
		}
	}
	for _, op := range []int64{impl.FlAnd, impl.FlOr, impl.FlNot} {
		for depth := 1; depth <= impl.MaxDeep; depth++ {
			all = append(all, deep(op, depth))
		}
	}
	return append(all, widestFilter())
}

// widestFilter has the longest text of all valid filters.
func widestFilter() []impl.Node {
	var operands [][]impl.Node
	for range impl.MaxNodes - 1 {
		operands = append(operands, leaf(impl.FlAtLeast, "a23456789_1234567890", strings.Repeat("(", 40)))
	}
	return allOf(operands...)
}

// wrongNodes returns nodes that are not right anywhere in a filter; the operators among them have one operand.
func wrongNodes() []impl.Node {
	all := []impl.Node{
		{Op: impl.FlAnd, Attr: "a", Many: 1},
		{Op: impl.FlOr, Attr: "a", Many: 1},
		{Op: impl.FlNot, Attr: "a", Many: 1},
		{Op: impl.FlAnd, Value: "x", Many: 1},
		{Op: impl.FlOr, Value: "x", Many: 1},
		{Op: impl.FlNot, Value: "x", Many: 1},
		{Op: impl.FlAnd, Attr: "a", Value: "x", Many: 1},
		{Op: impl.FlPresent, Attr: "a", Value: "x"},
		{Op: impl.FlPresent, Attr: "a", Value: " "},
		{Op: impl.FlPresent, Attr: "a", Value: "*"},
		{Op: impl.FlPresent, Attr: "a", Many: 1},
		{Op: impl.FlPresent, Attr: "a", Many: -1},
	}
	for _, many := range []int64{-1, 1, 2, math.MaxInt64, math.MinInt64} {
		for _, op := range []int64{impl.FlEqual, impl.FlBegins, impl.FlAtLeast, impl.FlAtMost} {
			all = append(all, impl.Node{Op: op, Attr: "a", Value: "x", Many: many})
		}
	}
	for _, op := range []int64{0, -1, 9, 10, 256 + impl.FlEqual, 1<<32 + impl.FlEqual, math.MaxInt64, math.MinInt64} {
		for many := range int64(2) {
			all = append(all, impl.Node{Op: op, Attr: "a", Value: "x", Many: many}, impl.Node{Op: op, Attr: "a", Many: many}, impl.Node{Op: op, Many: many})
		}
	}
	for _, op := range []int64{impl.FlEqual, impl.FlBegins, impl.FlAtLeast, impl.FlAtMost} {
		for _, value := range improperValues() {
			all = append(all, impl.Node{Op: op, Attr: "a", Value: value})
		}
		for _, name := range noNames() {
			all = append(all, impl.Node{Op: op, Attr: name, Value: "x"})
		}
	}
	for _, name := range noNames() {
		all = append(all, impl.Node{Op: impl.FlPresent, Attr: name})
	}
	return all
}

// wrongCounts returns lists whose nodes would be right, were it not for the number of operands.
func wrongCounts() [][]impl.Node {
	one := equal("a", "x")
	lists := [][]impl.Node{
		nil,
		{},
		slices.Concat(one, one),
		slices.Concat(one, present("b")),
		slices.Concat(allOf(one), one),
		slices.Concat(noneOf(one), one),
		slices.Concat(anyOf(one, one), one),
		slices.Concat(one, allOf(one)),
		allOf(one, one)[:2],
		anyOf(one, one, one)[:3],
		noneOf(one)[:1],
		allOf(one, noneOf(one))[:3],
		allOf(noneOf(one)[:1], one),
		noneOf(noneOf(one))[:2],
	}
	for _, many := range []int64{0, -1, math.MinInt64, 3, 20, 400, math.MaxInt64} {
		for _, op := range []int64{impl.FlAnd, impl.FlOr} {
			lists = append(lists, slices.Concat([]impl.Node{{Op: op, Many: many}}, one, one))
			lists = append(lists, []impl.Node{{Op: op, Many: many}})
		}
	}
	for _, many := range []int64{0, 2, -1, math.MinInt64, math.MaxInt64} {
		head := []impl.Node{{Op: impl.FlNot, Many: many}}
		lists = append(lists, head, slices.Concat(head, one), slices.Concat(head, one, one))
	}
	return lists
}

// invalidFilters returns lists of nodes that break one rule each.
func invalidFilters() [][]impl.Node {
	lists := wrongCounts()
	for _, n := range wrongNodes() {
		single := []impl.Node{n}
		below := append(single[:1:1], equal("b", "y")...)
		lists = append(lists, single, below, noneOf(single), noneOf(below), allOf(present("b"), single), anyOf(single, present("b")))
	}
	for _, op := range []int64{impl.FlAnd, impl.FlOr} {
		for _, nodes := range []int{21, 22, impl.MaxList, impl.MaxList + 1} {
			lists = append(lists, wide(op, nodes))
		}
		lists = append(lists, operator(op, present("b"), deep(op, 5)), operator(op, deep(op, 5), present("b")))
	}
	for _, op := range []int64{impl.FlAnd, impl.FlOr, impl.FlNot} {
		for _, depth := range []int{6, 7, 20, 21, impl.MaxList + 1} {
			lists = append(lists, deep(op, depth))
		}
	}
	return lists
}

// filterTextOf is the rule for the text of a filter, without the check that the filter is valid.
func filterTextOf(f []impl.Node) string {
	text, rest := firstFilterText(f)
	for len(rest) > 0 {
		var more string
		more, rest = firstFilterText(rest)
		text += more
	}
	return text
}

func firstFilterText(f []impl.Node) (string, []impl.Node) {
	if len(f) == 0 {
		return "", nil
	}
	n, rest := f[0], f[1:]
	text := "(" + n.Attr
	switch n.Op {
	case impl.FlAnd:
		text = "(&"
	case impl.FlOr:
		text = "(|"
	case impl.FlNot:
		text = "(!"
	case impl.FlPresent:
		text += "=*"
	case impl.FlBegins:
		text += "=" + escapedStars(n.Value) + "*"
	case impl.FlAtLeast:
		text += ">=" + escapedStars(n.Value)
	case impl.FlAtMost:
		text += "<=" + escapedStars(n.Value)
	default:
		text += "=" + escapedStars(n.Value)
	}
	for i := int64(0); i < n.Many && len(rest) > 0; i++ {
		var operand string
		operand, rest = firstFilterText(rest)
		text += operand
	}
	return text + ")", rest
}

func escapedStars(value string) string {
	return strings.NewReplacer("*", `\2a`, "(", `\28`, ")", `\29`, `\`, `\5c`).Replace(value)
}

func wantFilter(t *testing.T, text string, f []impl.Node, code int64) {
	t.Helper()
	got := impl.FilterRead(text)
	if !slices.Equal(got.Filter, f) || got.Code != code {
		t.Errorf("reading %.300q gives %.300v with code %d, want %.300v with code %d", text, got.Filter, got.Code, f, code)
	}
}

func wantResult(t *testing.T, f []impl.Node, e impl.Entry, known []string, want int64) {
	t.Helper()
	if got := impl.FilterEval(f, e, known); got != want {
		t.Errorf("%.300v on %.300q with %.100q known is %d, want %d", f, e, known, got, want)
	}
}

func TestChapter5Example(t *testing.T) {
	f := allOf(equal("cn", "a*"), noneOf(leaf(impl.FlBegins, "uid", "1")))
	text := `(&(cn=a\2a)(!(uid=1*)))`
	if got := impl.FilterText(f); got != text {
		t.Errorf("the text is %q", got)
	}
	wantFilter(t, text, f, impl.OK)
	e := person(attr("cn", "A*"), attr("uid", "2"))
	wantResult(t, f, e, []string{"cn", "uid"}, impl.True)
	wantResult(t, f, e, []string{"cn"}, impl.Unknown)
}

func TestChapter5Constants(t *testing.T) {
	got := []int{
		impl.FlAnd, impl.FlOr, impl.FlNot, impl.FlEqual, impl.FlPresent, impl.FlBegins, impl.FlAtLeast, impl.FlAtMost,
		impl.MaxNodes, impl.MaxDeep, impl.False, impl.True, impl.Unknown,
	}
	if want := []int{1, 2, 3, 4, 5, 6, 7, 8, 20, 5, 0, 1, 2}; !slices.Equal(got, want) {
		t.Errorf("the constants are %v, want %v", got, want)
	}
}

func TestFilterRight(t *testing.T) {
	for _, f := range validFilters() {
		if !impl.FilterRight(f) {
			t.Errorf("%v is not valid", f)
		}
	}
	for _, f := range invalidFilters() {
		if impl.FilterRight(f) {
			t.Errorf("%.300v is valid", f)
		}
	}
}

func TestFilterTexts(t *testing.T) {
	for _, c := range []struct {
		f    []impl.Node
		want string
	}{
		{present("cn"), "(cn=*)"},
		{equal("cn", "x"), "(cn=x)"},
		{equal("cn", "*"), `(cn=\2a)`},
		{leaf(impl.FlBegins, "cn", "x"), "(cn=x*)"},
		{leaf(impl.FlBegins, "cn", "x*"), `(cn=x\2a*)`},
		{leaf(impl.FlAtLeast, "cn", "x"), "(cn>=x)"},
		{leaf(impl.FlAtMost, "cn", "x"), "(cn<=x)"},
		{leaf(impl.FlAtLeast, "cn", "=x"), "(cn>==x)"},
		{leaf(impl.FlAtMost, "cn", "(a)"), `(cn<=\28a\29)`},
		{equal("cn", ">=x"), "(cn=>=x)"},
		{equal("cn", `(a)*\2a`), `(cn=\28a\29\2a\5c2a)`},
		{equal("cn", " A  b "), "(cn= A  b )"},
		{equal("cn", "&|!=<>,"), "(cn=&|!=<>,)"},
		{allOf(present("a")), "(&(a=*))"},
		{anyOf(present("a"), present("b"), present("c")), "(|(a=*)(b=*)(c=*))"},
		{noneOf(noneOf(present("a"))), "(!(!(a=*)))"},
		{allOf(anyOf(present("a"), present("b")), noneOf(present("c")), equal("d", "e")), "(&(|(a=*)(b=*))(!(c=*))(d=e))"},
	} {
		if got := impl.FilterText(c.f); got != c.want {
			t.Errorf("the text of %v is %q, want %q", c.f, got, c.want)
		}
		wantFilter(t, c.want, c.f, impl.OK)
	}
	for _, f := range validFilters() {
		if got := impl.FilterText(f); got != filterTextOf(f) {
			t.Errorf("the text of %v is %q", f, got)
		}
	}
	for _, f := range invalidFilters() {
		if got := impl.FilterText(f); got != "" {
			t.Errorf("the text of invalid %.300v is %q", f, got)
		}
	}
}

// Promise 10.
func TestFilterIsRecoveredFromItsText(t *testing.T) {
	for _, f := range validFilters() {
		text := impl.FilterText(f)
		wantFilter(t, text, f, impl.OK)
		for cut := range len(text) {
			wantFilter(t, text[:cut], nil, impl.ErrSyntax)
			wantFilter(t, text[cut+1:], nil, impl.ErrSyntax)
		}
		for b := range 256 {
			more := string([]byte{byte(b)})
			wantFilter(t, text+more, nil, impl.ErrSyntax)
			wantFilter(t, more+text, nil, impl.ErrSyntax)
		}
		wantFilter(t, text+text, nil, impl.ErrSyntax)
		if t.Failed() {
			return // one filter's failures are enough to read
		}
	}
}

// Promise 10, for every printable byte in a value.
func TestEveryByteIsRecovered(t *testing.T) {
	for b := byte(32); b <= 126; b++ {
		c := string([]byte{b})
		for _, op := range []int64{impl.FlEqual, impl.FlBegins, impl.FlAtLeast, impl.FlAtMost} {
			for _, value := range []string{c, c + "a", "a" + c, c + c, "a" + c + "2a"} {
				f := leaf(op, "cn", value)
				if value == " " || value == "  " {
					wantFilter(t, filterTextOf(f), nil, impl.ErrSyntax)
					continue
				}
				wantFilter(t, filterTextOf(f), f, impl.OK)
			}
		}
	}
}

// checkTaken fails if a string is taken that is not the text of the result, and reports whether it is taken.
func checkTaken(t *testing.T, text string) bool {
	t.Helper()
	got := impl.FilterRead(text)
	if got.Code == impl.OK && impl.FilterRight(got.Filter) && filterTextOf(got.Filter) == text {
		return true
	}
	wantFilter(t, text, nil, impl.ErrSyntax)
	return false
}

// Promise 10: what is taken is a text, whichever byte is changed, inserted or left out.
func TestFilterReadTakesOnlyTexts(t *testing.T) {
	taken := 0
	for _, text := range []string{`(&(cn=a\2a)(!(uid=1*)))`, `(|(a>=\5c)(b<=x)(c=*))`} {
		for at := range len(text) {
			for b := range 256 {
				c := string([]byte{byte(b)})
				for _, changed := range []string{text[:at] + c + text[at+1:], text[:at] + c + text[at:]} {
					if checkTaken(t, changed) {
						taken++
					}
				}
			}
			checkTaken(t, text[:at]+text[at+1:])
			if t.Failed() {
				return
			}
		}
	}
	if taken < 500 {
		t.Errorf("only %d changed texts were taken", taken)
	}
}

// Promise 10: all short strings.
func TestFilterReadOfShortStrings(t *testing.T) {
	taken := 0
	for _, text := range words("(!a=*)", 7) {
		if checkTaken(t, text) {
			taken++
		}
		if t.Failed() {
			return
		}
	}
	// (a=v), where v is one, two or three of a, =, ! or is * or is one or two of them with a * behind;
	// (aa=v) with the shorter ones of these, and (aaa=v) with the shortest.
	want := (3 + 9 + 27 + 1 + 3 + 9) + (3 + 9 + 1 + 3) + (3 + 1)
	if taken != want {
		t.Errorf("%d short texts were taken, want %d", taken, want)
	}
}

func TestFilterReadErrors(t *testing.T) {
	for _, text := range []string{
		"", " ", "x", "(", ")", "()", ")(", "(())", "cn=x", "(cn=x", "cn=x)", "(a=b", "((cn=x))", "(cn=x))", "(cn=x)(cn=x)",
		" (cn=x)", "(cn=x) ", "( cn=x)", "(cn =x)", "(cn=x)\n",
		"(&)", "(|)", "(!)", "(&", "(!(a=b)", "(!(a=b)(c=d))", "(&&(a=b))", "(& (a=b))", "(&(a=b) (c=d))", "(&(a=b)c=d)", "(&a=b)",
		"(?(a=b))", "((a=b))", "(a=b(c=d))", "(a=(c=d))", "(!a=b)", "(-(a=b))", "&(a=b)", "(&((a=b)))",
		"(a)", "(a<b)", "(a>b)", "(a~=b)", "(a:=b)", "(a=)", "(a>=)", "(a<=)", "(=b)", "(>=b)", "(=*)", "(a= )", "(a>=  )", "(a= *)",
		"(a=<)*", "(a=**)", "(a=*b)", "(a=b*c)", "(a=*b*)", "(a=b**)", "(a>=*)", "(a<=*)", "(a>=b*)", "(a<=b*)", "(a=\\2a**)",
		`(a=\)`, `(a=\2)`, `(a=\a)`, `(a=b\)`, `(a=b\2)`, `(a=b\*)`, `(a=\\)`, `(a=\()`, `(a=\))`, `(a=\2A)`, `(a=\5C)`, `(a=\5\2a)`,
		`(a=\61)`, `(a=\20x)`, `(a=\2b)`, `(a=\00)`, `(a=\3d)`, `(a=\26)`, `(a\2a=x)`, `(a=\2a\)`, `(a=\5c2a\5)`, `(a=()`, `(a=))`, `(a=a(b)`,
		"(A=b)", "(1=b)", "(_a=b)", "(a-b=c)", "(a b=c)", "(a23456789_12345678901=x)", "(a=\t)", "(a=\x7f)", "(a=\u00e9)", "(a=x\x00)",
		"(a=" + strings.Repeat("v", 41) + ")", "(a=" + strings.Repeat("v", 41) + "*)", "(a>=" + strings.Repeat(`\2a`, 41) + ")",
		"(a=" + strings.Repeat(" ", 40) + ")",
		strings.Repeat("(", impl.MaxBytes), strings.Repeat(")", impl.MaxBytes), strings.Repeat("(!", impl.MaxBytes/2),
		strings.Repeat("()", impl.MaxBytes/2), strings.Repeat(`\`, impl.MaxBytes), strings.Repeat("(a=b)", impl.MaxBytes/5),
	} {
		wantFilter(t, text, nil, impl.ErrSyntax)
	}
	for _, name := range noNames() {
		wantFilter(t, filterTextOf(present(name)), nil, impl.ErrSyntax)
		wantFilter(t, filterTextOf(noneOf(equal(name, "x"))), nil, impl.ErrSyntax)
	}
	for _, value := range improperValues() {
		for _, op := range []int64{impl.FlEqual, impl.FlBegins, impl.FlAtLeast, impl.FlAtMost} {
			if op == impl.FlBegins && value == "" {
				continue // the text of FlPresent
			}
			wantFilter(t, filterTextOf(leaf(op, "a", value)), nil, impl.ErrSyntax)
			wantFilter(t, filterTextOf(anyOf(present("b"), leaf(op, "a", value))), nil, impl.ErrSyntax)
		}
	}
	wantFilter(t, "(a="+strings.Repeat("v", impl.MaxBytes-4)+")", nil, impl.ErrSyntax)
	wantFilter(t, "(a="+strings.Repeat("v", impl.MaxBytes-3)+")", nil, impl.ErrSize)
	wantFilter(t, "(a=b)"+strings.Repeat(" ", impl.MaxBytes), nil, impl.ErrSize)
}

// The limits of nodes and depth hold for texts too.
func TestFilterReadLimits(t *testing.T) {
	for _, op := range []int64{impl.FlAnd, impl.FlOr} {
		wantFilter(t, filterTextOf(wide(op, 20)), wide(op, 20), impl.OK)
		for _, nodes := range []int{21, 22, impl.MaxList, impl.MaxList + 1} {
			wantFilter(t, filterTextOf(wide(op, nodes)), nil, impl.ErrSyntax)
		}
	}
	for _, op := range []int64{impl.FlAnd, impl.FlOr, impl.FlNot} {
		wantFilter(t, filterTextOf(deep(op, 5)), deep(op, 5), impl.OK)
		for _, depth := range []int{6, 7, 20, 21, impl.MaxList + 1, 2600} {
			wantFilter(t, filterTextOf(deep(op, depth)), nil, impl.ErrSyntax)
		}
	}
}

func TestNot(t *testing.T) {
	if impl.Not(impl.False) != impl.True || impl.Not(impl.True) != impl.False {
		t.Error("Not does not exchange False and True")
	}
	for _, n := range []int64{impl.Unknown, -1, -2, 3, 4, 256, 257, 1 << 32, 1<<32 + 1, math.MaxInt64, math.MinInt64} {
		if got := impl.Not(n); got != impl.Unknown {
			t.Errorf("Not of %d is %d", n, got)
		}
	}
}

func TestConditions(t *testing.T) {
	e := person(attr("cn", "Ann  Lee", "BOB"), attr("mail", "A@x"), attr("uid", "100", "20"))
	known := []string{"cn", "mail", "sn", "uid"}
	for _, c := range []struct {
		op    int64
		attr  string
		value string
		want  int64
	}{
		{impl.FlEqual, "cn", "ann lee", impl.True},
		{impl.FlEqual, "cn", " ANN LEE ", impl.True},
		{impl.FlEqual, "cn", "bob", impl.True},
		{impl.FlEqual, "cn", "ann", impl.False},
		{impl.FlEqual, "cn", "a*", impl.False},
		{impl.FlEqual, "cn", "bobb", impl.False},
		{impl.FlEqual, "mail", "bob", impl.False},
		{impl.FlEqual, "sn", "bob", impl.False},
		{impl.FlEqual, "ou", "x", impl.Unknown},
		{impl.FlPresent, "cn", "", impl.True},
		{impl.FlPresent, "uid", "", impl.True},
		{impl.FlPresent, "sn", "", impl.False},
		{impl.FlPresent, "ou", "", impl.Unknown},
		{impl.FlBegins, "cn", "ann", impl.True},
		{impl.FlBegins, "cn", "ANN L", impl.True},
		{impl.FlBegins, "cn", "  ann   l", impl.True},
		{impl.FlBegins, "cn", "ann ", impl.True},
		{impl.FlBegins, "cn", "b", impl.True},
		{impl.FlBegins, "cn", "bob", impl.True},
		{impl.FlBegins, "cn", "bobb", impl.False},
		{impl.FlBegins, "cn", "ob", impl.False},
		{impl.FlBegins, "cn", "lee", impl.False},
		{impl.FlBegins, "sn", "b", impl.False},
		{impl.FlBegins, "ou", "x", impl.Unknown},
		{impl.FlAtLeast, "uid", "20", impl.True},
		{impl.FlAtLeast, "uid", "2", impl.True},
		{impl.FlAtLeast, "uid", "1000", impl.True},
		{impl.FlAtLeast, "uid", "200", impl.False},
		{impl.FlAtLeast, "uid", "21", impl.False},
		{impl.FlAtLeast, "cn", "B", impl.True},
		{impl.FlAtLeast, "cn", " boB", impl.True},
		{impl.FlAtLeast, "cn", "Bobb", impl.False},
		{impl.FlAtLeast, "mail", "Z", impl.False},
		{impl.FlAtLeast, "sn", "!", impl.False},
		{impl.FlAtLeast, "ou", "!", impl.Unknown},
		{impl.FlAtMost, "uid", "100", impl.True},
		{impl.FlAtMost, "uid", "1000", impl.True},
		{impl.FlAtMost, "uid", "10", impl.False},
		{impl.FlAtMost, "uid", "0", impl.False},
		{impl.FlAtMost, "cn", "ANN LEE", impl.True},
		{impl.FlAtMost, "cn", "ann   lee", impl.True},
		{impl.FlAtMost, "cn", "ann", impl.False},
		{impl.FlAtMost, "cn", "Z", impl.True},
		{impl.FlAtMost, "mail", "A", impl.False},
		{impl.FlAtMost, "mail", "_", impl.False},
		{impl.FlAtMost, "sn", "~", impl.False},
		{impl.FlAtMost, "ou", "~", impl.Unknown},
	} {
		wantResult(t, leaf(c.op, c.attr, c.value), e, known, c.want)
		wantResult(t, leaf(c.op, c.attr, c.value), e, nil, impl.Unknown)
		wantResult(t, leaf(c.op, c.attr, c.value), e, []string{"a", "ab", "c", "cn_", "z"}, impl.Unknown)
	}
	// The DN is not an attribute.
	wantResult(t, present("cn"), person(), known, impl.False)
	wantResult(t, equal("cn", "Ann"), person(), known, impl.False)
}

// operandOf returns a filter whose result on logicEntry is the given one, if only known1 is known.
func operandOf(result int64) []impl.Node {
	switch result {
	case impl.True:
		return equal("known1", "x")
	case impl.False:
		return equal("known1", "y")
	}
	return equal("other", "x")
}

func logicEntry() impl.Entry {
	return person(attr("known1", "X"), attr("other", "x"))
}

// threes returns all lists of the three results of at most the given length, but not the empty one.
func threes(longest int) [][]int64 {
	var all [][]int64
	for _, word := range words("012", longest)[1:] {
		var list []int64
		for i := range len(word) {
			list = append(list, int64(word[i]-'0'))
		}
		all = append(all, list)
	}
	return all
}

// firstOf returns the first of the results that is in the list, and the last one if none is.
func firstOf(list []int64, results ...int64) int64 {
	for _, result := range results {
		if slices.Contains(list, result) {
			return result
		}
	}
	return results[len(results)-1]
}

func TestOperators(t *testing.T) {
	e, known := logicEntry(), []string{"known1"}
	for _, list := range threes(5) {
		var operands [][]impl.Node
		for _, result := range list {
			operands = append(operands, operandOf(result))
			wantResult(t, operandOf(result), e, known, result)
		}
		and := firstOf(list, impl.False, impl.Unknown, impl.True)
		or := firstOf(list, impl.True, impl.Unknown, impl.False)
		wantResult(t, allOf(operands...), e, known, and)
		wantResult(t, anyOf(operands...), e, known, or)
		wantResult(t, noneOf(allOf(operands...)), e, known, impl.Not(and))
		wantResult(t, noneOf(anyOf(operands...)), e, known, impl.Not(or))
		wantResult(t, anyOf(allOf(operands...), operandOf(impl.False)), e, known, and)
		wantResult(t, allOf(operandOf(impl.True), anyOf(operands...)), e, known, or)
	}
	for result := range int64(3) {
		want := []int64{impl.True, impl.False, impl.Unknown}[result]
		wantResult(t, noneOf(operandOf(result)), e, known, want)
		wantResult(t, noneOf(noneOf(operandOf(result))), e, known, result)
	}
	for _, op := range []int64{impl.FlAnd, impl.FlOr, impl.FlNot} {
		wantResult(t, deep(op, 4), person(attr("a", "x")), []string{"b"}, impl.Unknown)
	}
	wantResult(t, deep(impl.FlAnd, 5), person(attr("a", "x")), []string{"a"}, impl.True)
	wantResult(t, deep(impl.FlNot, 5), person(attr("a", "x")), []string{"a"}, impl.True)
	wantResult(t, deep(impl.FlNot, 4), person(attr("a", "x")), []string{"a"}, impl.False)
}

// lawFilters returns filters that leave room for two more operators above them.
func lawFilters() [][]impl.Node {
	var all [][]impl.Node
	for _, f := range []string{
		"(cn=ann)", "(cn=x)", "(cn=*)", "(cn=a*)", "(cn>=b)", "(cn<=b)", "(mail=*)", "(mail=a@x)", "(mail<=a)", "(uid>=2)", "(zz=*)",
		"(!(cn=ann))", "(!(zz=x))", "(&(cn=*)(mail=*))", "(|(cn=x)(uid=1*))", "(&(cn=*)(!(mail=*))(zz=*))", "(|(&(cn=x)(zz=*))(uid=*))",
	} {
		all = append(all, impl.FilterRead(f).Filter)
	}
	return all
}

// Promise 11.
func TestNegationInvertsAndDeMorganHolds(t *testing.T) {
	entries := []impl.Entry{
		person(), person(attr("cn", "Ann")), person(attr("cn", "Ann", "Bob"), attr("mail", "A@x"), attr("uid", "10", "2")),
		person(attr("mail", "b@x"), attr("zz", "x")),
	}
	seen := make([]int, 3)
	for _, e := range entries {
		for _, known := range [][]string{nil, {"cn"}, {"cn", "mail"}, {"cn", "mail", "uid"}, {"mail", "uid", "zz"}, {"cn", "mail", "uid", "zz"}} {
			for _, a := range lawFilters() {
				result := impl.FilterEval(a, e, known)
				seen[result]++
				wantResult(t, noneOf(a), e, known, impl.Not(result))
				for _, b := range lawFilters() {
					nots := [][]impl.Node{noneOf(a), noneOf(b)}
					wantResult(t, noneOf(allOf(a, b)), e, known, impl.FilterEval(anyOf(nots...), e, known))
					wantResult(t, noneOf(anyOf(a, b)), e, known, impl.FilterEval(allOf(nots...), e, known))
					wantResult(t, allOf(a, b), e, known, impl.FilterEval(allOf(b, a), e, known))
				}
			}
		}
	}
	if min(seen[0], seen[1], seen[2]) < 30 {
		t.Errorf("the filters were False, True and Unknown %v times", seen)
	}
}

// manyNames returns names in increasing order, cn the first of them.
func manyNames(many int) []string {
	names := []string{"cn"}
	for i := range many - 1 {
		names = append(names, "d"+strconv.Itoa(1000+i))
	}
	return names
}

func TestFilterEvalErrors(t *testing.T) {
	f, e, known := present("cn"), person(attr("cn", "x")), []string{"cn"}
	wantResult(t, f, e, known, impl.True)
	for _, f := range invalidFilters() {
		want := int64(impl.Unknown)
		if len(f) > impl.MaxList {
			want = impl.False
		}
		wantResult(t, f, person(attr("a", "x"), attr("b", "y")), []string{"a", "b"}, want)
		wantResult(t, f, impl.Entry{}, []string{"b", "a"}, want)
	}
	for _, e := range invalidEntries() {
		wantResult(t, f, e, known, impl.Unknown)
		wantResult(t, noneOf(f), e, known, impl.Unknown)
		wantResult(t, anyOf(f, noneOf(f)), e, known, impl.Unknown)
	}
	lists := [][]string{{"cn", "cn"}, {"cn", "a"}, {"cn", "mail", "dn"}, {"cn", "d", "d"}, {"cn", "d", "e", "cn"}, {"cn1", "cn"}}
	for _, name := range noNames() {
		lists = append(lists, []string{name}, []string{"cn", name}, []string{name, "cn"}, []string{"cn", name, "zz"})
	}
	for _, known := range lists {
		wantResult(t, f, e, known, impl.Unknown)
		wantResult(t, noneOf(present("sn")), e, known, impl.Unknown)
	}
	wantResult(t, f, e, manyNames(impl.MaxList), impl.True)
	wantResult(t, f, e, manyNames(impl.MaxList+1), impl.False)
	wantResult(t, nil, impl.Entry{}, make([]string, impl.MaxList), impl.Unknown)
	wantResult(t, nil, impl.Entry{}, make([]string, impl.MaxList+1), impl.False)
	wantResult(t, make([]impl.Node, impl.MaxList), e, known, impl.Unknown)
	wantResult(t, make([]impl.Node, impl.MaxList+1), e, known, impl.False)
	// The limit holds for arguments, not for their elements and fields.
	long := strings.Repeat("a", impl.MaxBytes+1)
	wantResult(t, f, e, []string{"cn", long}, impl.Unknown)
	wantResult(t, equal("cn", long), e, known, impl.Unknown)
	wantResult(t, present(long), e, known, impl.Unknown)
}

func TestFilterAttrs(t *testing.T) {
	for _, c := range []struct {
		f    []impl.Node
		want []string
	}{
		{present("cn"), []string{"cn"}},
		{noneOf(equal("cn", "uid")), []string{"cn"}},
		{allOf(equal("cn", "a*"), noneOf(leaf(impl.FlBegins, "uid", "1"))), []string{"cn", "uid"}},
		{anyOf(present("b"), present("a"), present("b"), present("a1"), present("a_"), present("aa"), present("a")), []string{"a", "a1", "a_", "aa", "b"}},
		{allOf(leaf(impl.FlAtMost, "z", "x"), leaf(impl.FlAtLeast, "y", "x"), leaf(impl.FlBegins, "x", "x"), present("w"), equal("v", "x")), []string{"v", "w", "x", "y", "z"}},
		{wide(impl.FlOr, 20), []string{"a0", "a1", "a2", "a3", "a4", "a5", "a6"}},
	} {
		wantValues(t, "the attributes of "+filterTextOf(c.f), impl.FilterAttrs(c.f), c.want...)
	}
	for _, f := range validFilters() {
		var want []string
		for _, n := range f {
			if n.Op > impl.FlNot {
				want = append(want, n.Attr)
			}
		}
		slices.Sort(want)
		wantValues(t, "the attributes", impl.FilterAttrs(f), slices.Compact(want)...)
	}
	for _, f := range invalidFilters() {
		wantValues(t, "the attributes of an invalid filter", impl.FilterAttrs(f))
	}
}

func filterTexts(f []impl.Node) []string {
	var out []string
	for _, n := range f {
		out = append(out, n.Attr, n.Value)
	}
	return out
}

func TestFilterResultsShareNoMemory(t *testing.T) {
	kept := allOf(equal("uid", "second"), noneOf(leaf(impl.FlBegins, "cn", "a*b")), present("uid"))
	f := append(make([]impl.Node, 0, 10), kept...)
	names := impl.FilterAttrs(f)
	if shareTexts(names, filterTexts(f)) {
		t.Error("the attributes of a filter share memory with it")
	}
	text := impl.FilterText(f)
	got := impl.FilterRead(text).Filter
	if len(got) != len(f) || shareTexts(filterTexts(got), []string{text}) {
		t.Error("a filter shares memory with its text")
	}
	if shareLists(impl.FilterRead(text).Filter, got) || shareLists(impl.FilterAttrs(f), names) {
		t.Error("two results share memory")
	}
	keptEntry := person(attr("cn", "AB", "x"), attr("uid", "1"))
	e := roomy(keptEntry)
	known := append(make([]string, 0, 5), "cn", "uid")
	impl.FilterRight(f)
	impl.FilterEval(f, e, known)
	if !slices.Equal(f, kept) || !slices.Equal(f[len(f):cap(f)], make([]impl.Node, cap(f)-len(f))) || !untouched(e, keptEntry) {
		t.Error("an argument was changed")
	}
	wantValues(t, "the known attributes", known[:cap(known)], "cn", "uid", "", "", "")
}
