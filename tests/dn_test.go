package tests

import (
	"slices"
	"strings"
	"testing"

	"loop.example/g00402/impl"
)

// rdns returns a DN from pairs of an attribute and a value.
func rdns(pairs ...string) []impl.Rdn {
	var dn []impl.Rdn
	for i := 0; i < len(pairs); i += 2 {
		dn = append(dn, impl.Rdn{Attr: pairs[i], Value: pairs[i+1]})
	}
	return dn
}

// chain returns a DN of many RDNs, all different.
func chain(many int) []impl.Rdn {
	var dn []impl.Rdn
	for i := range many {
		dn = append(dn, impl.Rdn{Attr: "ou", Value: "Level " + strings.Repeat("i", i%7+1)})
	}
	return dn
}

// words returns all strings over the alphabet of at most the given length, the empty one first.
func words(alphabet string, longest int) []string {
	all := []string{""}
	start := 0
	for range longest {
		end := len(all)
		for _, word := range all[start:end] {
			for i := range len(alphabet) {
				all = append(all, word+alphabet[i:i+1])
			}
		}
		start = end
	}
	return all
}

// validDns returns DNs with every edge that the chapter names.
func validDns() [][]impl.Rdn {
	all := [][]impl.Rdn{
		nil,
		{},
		rdns("cn", "A,b", "ou", " x"),
		rdns("a", "b"),
		rdns("a23456789_1234567890", strings.Repeat("v", 40)),
		rdns("cn", strings.Repeat(",", 40)),
		rdns("cn", "#", "ou", "##", "o", "a#"),
		rdns("cn", " a ", "ou", "  a  ", "o", "a b"),
		rdns("cn", " #", "ou", "# ", "o", " ,"),
		rdns("cn", `\`, "cn", `\\`, "cn", `a\,b\`),
		rdns("cn", "a=b,ou=c", "ou", "="),
		rdns("cn", "x", "cn", "x", "cn", "x"),
	}
	for many := range 6 {
		all = append(all, chain(many+1))
	}
	for b := byte(33); b <= 126; b++ {
		c := string([]byte{b})
		all = append(all, rdns("cn", c, "ou", "a"+c, "o", c+"a", "c", "a"+c+"a"))
	}
	return all
}

// invalidDns returns DNs that break one rule each.
func invalidDns() [][]impl.Rdn {
	all := [][]impl.Rdn{
		chain(7),
		chain(impl.MaxList),
		chain(impl.MaxList + 1),
		rdns("", "x"),
		rdns("Cn", "x"),
		rdns("1a", "x"),
		rdns("c n", "x"),
		rdns("a23456789_12345678901", "x"),
		rdns("cn", ""),
		rdns("cn", " "),
		rdns("cn", strings.Repeat(" ", 40)),
		rdns("cn", strings.Repeat("v", 41)),
		rdns("cn", strings.Repeat("v", 100)),
		rdns("cn", "x", "ou", " "),
		rdns(" ", "x", "ou", "x"),
		append(chain(5), impl.Rdn{}),
		append(rdns("cn", "\t"), chain(5)...),
	}
	for b := range 256 {
		if b < 32 || b > 126 {
			c := string([]byte{byte(b)})
			all = append(all, rdns("cn", c), rdns("cn", c+"a"), rdns("cn", "a"+c), rdns("cn", "x", "cn", "a"+c+"a"))
		}
	}
	return all
}

// escaped is the rule for an escaped proper value, written down another way.
func escaped(value string) string {
	for _, c := range []string{`\`, ",", "+", `"`, "<", ">", ";", "="} {
		value = strings.ReplaceAll(value, c, `\`+c)
	}
	if strings.HasPrefix(value, " ") || strings.HasPrefix(value, "#") {
		value = `\` + value
	}
	if strings.HasSuffix(value, " ") {
		value = strings.TrimSuffix(value, " ") + `\ `
	}
	return value
}

func wantDn(t *testing.T, what string, got impl.DnOut, dn []impl.Rdn, code int64) {
	t.Helper()
	if !slices.Equal(got.Dn, dn) || got.Code != code {
		t.Errorf("%s is %.200q with code %d, want %.200q with code %d", what, got.Dn, got.Code, dn, code)
	}
}

func TestChapter3Examples(t *testing.T) {
	dn := rdns("cn", "A,b", "ou", " x")
	if got := impl.DnText(dn); got != `cn=A\,b,ou=\ x` {
		t.Errorf("the text is %q", got)
	}
	wantDn(t, "the DN of the text", impl.DnRead(`cn=A\,b,ou=\ x`), dn, impl.OK)
	if got := impl.Norm("  Ann   B "); got != "ann b" {
		t.Errorf("the normalized form is %q", got)
	}
	if !impl.DnUnder(dn, rdns("ou", "X")) {
		t.Error("the DN is not under ou=X")
	}
}

func TestNormValues(t *testing.T) {
	for _, c := range []struct {
		value string
		want  string
	}{
		{"", ""},
		{" ", ""},
		{strings.Repeat(" ", 100), ""},
		{"a", "a"},
		{"AZ az", "az az"},
		{"@[`{", "@[`{"},
		{"a  b   c", "a b c"},
		{"   x", "x"},
		{"x   ", "x"},
		{" A  B ", "a b"},
		{"~!", "~!"},
		{strings.Repeat("X", 100), strings.Repeat("x", 100)},
		{strings.Repeat("X", 101), ""},
		{strings.Repeat(" ", 99) + "X", "x"},
		{strings.Repeat(" ", 100) + "X", ""},
		{strings.Repeat("x", impl.MaxBytes+1), ""},
		{"a\tb", ""},
		{"\u00e9", ""},
	} {
		if got := impl.Norm(c.value); got != c.want {
			t.Errorf("Norm(%.50q) is %.50q, want %.50q", c.value, got, c.want)
		}
	}
}

func TestNormBytes(t *testing.T) {
	for b := range 256 {
		c := string([]byte{byte(b)})
		want := "xyz"
		switch {
		case b < 32 || b > 126:
			want = ""
		case b == ' ':
			want = "x yz"
		case b >= 'A' && b <= 'Z':
			want = "x" + string([]byte{byte(b) + 32}) + "yz"
		default:
			want = "x" + c + "yz"
		}
		if got := impl.Norm("x" + c + "yz"); got != want {
			t.Errorf("Norm with byte %d is %q, want %q", b, got, want)
		}
	}
}

// Promise 3. The oracle joins the words of a string, as strings.Fields finds them.
func TestNormDependsNotOnCaseOrSpaces(t *testing.T) {
	for _, value := range words("aB #", 5) {
		want := strings.ToLower(strings.Join(strings.Fields(value), " "))
		for _, other := range []string{
			value,
			strings.ToUpper(value),
			strings.ToLower(value),
			"  " + value + "   ",
			strings.ReplaceAll(value, " ", "    "),
			want,
		} {
			if got := impl.Norm(other); got != want {
				t.Errorf("Norm(%q) is %q, want %q", other, got, want)
			}
		}
	}
}

func TestDnRight(t *testing.T) {
	for _, dn := range validDns() {
		if !impl.DnRight(dn) {
			t.Errorf("%q is not valid", dn)
		}
	}
	for _, dn := range invalidDns() {
		if impl.DnRight(dn) {
			t.Errorf("%.200q is valid", dn)
		}
	}
}

func TestDnTextEscapes(t *testing.T) {
	for _, c := range []struct {
		value string
		want  string
	}{
		{",", `\,`},
		{"+", `\+`},
		{`"`, `\"`},
		{`\`, `\\`},
		{"<", `\<`},
		{">", `\>`},
		{";", `\;`},
		{"=", `\=`},
		{"#", `\#`},
		{"##", `\##`},
		{"a#", "a#"},
		{" #", `\ #`},
		{" a", `\ a`},
		{"  a", `\  a`},
		{"a ", `a\ `},
		{"a  ", `a \ `},
		{" a ", `\ a\ `},
		{"a b", "a b"},
		{`, `, `\,\ `},
		{"'!$%&()*-./:?@[]^_`{|}~", "'!$%&()*-./:?@[]^_`{|}~"},
	} {
		if got := impl.DnText(rdns("cn", c.value)); got != "cn="+c.want {
			t.Errorf("the text of cn with %q is %q", c.value, got)
		}
	}
}

func TestDnTextLists(t *testing.T) {
	for _, c := range []struct {
		dn   []impl.Rdn
		want string
	}{
		{nil, ""},
		{rdns("cn", "a"), "cn=a"},
		{rdns("cn", "A", "ou", "b", "o", "c"), "cn=A,ou=b,o=c"},
		{rdns("cn", "a,ou=b"), `cn=a\,ou\=b`},
	} {
		if got := impl.DnText(c.dn); got != c.want {
			t.Errorf("the text of %q is %q", c.dn, got)
		}
	}
	for _, dn := range invalidDns() {
		if got := impl.DnText(dn); got != "" {
			t.Errorf("the text of %.200q is %.200q", dn, got)
		}
	}
}

// Promise 4.
func TestDnIsRecoveredFromItsText(t *testing.T) {
	for _, dn := range validDns() {
		wantDn(t, "the DN read from its text", impl.DnRead(impl.DnText(dn)), dn, impl.OK)
	}
	for _, value := range words(`a #,\=`, 4) {
		dn := rdns("cn", value, "ou", value+"x")
		if impl.DnRight(dn) {
			wantDn(t, "the DN read from its text", impl.DnRead(impl.DnText(dn)), dn, impl.OK)
		}
	}
}

// shortTexts returns every DN over the attributes a, aa and so on and values of a few characters,
// by its text, if the text has at most the given length.
func shortTexts(longest int) map[string][]impl.Rdn {
	single := map[string][]impl.Rdn{}
	for _, value := range words(`a=,\ #`, longest-2) {
		text := "=" + escaped(value)
		for attr := "a"; len(attr)+len(text) <= longest && strings.Trim(value, " ") != ""; attr += "a" {
			single[attr+text] = rdns(attr, value)
		}
	}
	known := map[string][]impl.Rdn{"": nil}
	for first, dn := range single {
		known[first] = dn
		for second, more := range single {
			if len(first)+1+len(second) > longest {
				continue
			}
			known[first+","+second] = append(slices.Clone(dn), more...)
		}
	}
	return known
}

// Promise 4: no other text is taken. Three RDNs need eleven characters, more than these texts have.
func TestDnReadTakesOnlyTexts(t *testing.T) {
	const longest = 7
	known := shortTexts(longest)
	for _, text := range words(`a=,\ #`, longest) {
		dn, taken := known[text]
		code := int64(impl.ErrSyntax)
		if taken {
			code = impl.OK
		}
		if got := impl.DnRead(text); got.Code != code || !slices.Equal(got.Dn, dn) {
			t.Fatalf("DnRead(%q) is %q with code %d, want %q with code %d", text, got.Dn, got.Code, dn, code)
		}
	}
}

func TestDnReadErrors(t *testing.T) {
	seven := strings.Repeat("cn=a,", 6) + "cn=a"
	for _, text := range []string{
		"cn", "cn=", "=a", "=", ",", "cn=a,", ",cn=a", "cn=a,,cn=b", "cn=a,ou", "cn=a, ou=b", " cn=a", "cn =a",
		"Cn=a", "1n=a", `c\n=a`, `cn\=a`, "a23456789_12345678901=x",
		`cn=\a`, `cn=a\ b`, `cn=a\#`, `cn=\'a`, `cn=a\`, `cn=\`, `cn=\\\`, `cn=a\,\`, `cn=\  `, `cn=\ `, `cn= `, `cn=\ \ `,
		"cn= a", "cn=a ", "cn=#a", "cn=a=b", "cn=a+b", `cn="a"`, "cn=a<b", "cn=a>b", "cn=a;b", "cn==",
		"cn=a\tb", "cn=\x7f", "cn=\u00e9", "cn=a\x00",
		"cn=" + strings.Repeat("v", 41),
		"cn=" + strings.Repeat(`\,`, 41),
		seven,
		strings.Repeat(",", impl.MaxBytes),
		strings.Repeat("a", impl.MaxBytes),
		strings.Repeat(`\`, impl.MaxBytes),
	} {
		wantDn(t, "the DN read from "+text[:min(60, len(text))], impl.DnRead(text), nil, impl.ErrSyntax)
	}
	wantDn(t, "the DN read from a long text", impl.DnRead(strings.Repeat("a", impl.MaxBytes+1)), nil, impl.ErrSize)
	wantDn(t, "the DN read from no text", impl.DnRead(""), nil, impl.OK)
	wantDn(t, "the DN of six RDNs", impl.DnRead(seven[5:]), rdns("cn", "a", "cn", "a", "cn", "a", "cn", "a", "cn", "a", "cn", "a"), impl.OK)
	longest := strings.Repeat(",", 40)
	wantDn(t, "the DN of 40 bytes", impl.DnRead("cn="+escaped(longest)), rdns("cn", longest), impl.OK)
}

func TestDnSame(t *testing.T) {
	for _, c := range []struct {
		a    []impl.Rdn
		b    []impl.Rdn
		want bool
	}{
		{nil, nil, true},
		{nil, []impl.Rdn{}, true},
		{rdns("cn", "A,b", "ou", " x"), rdns("cn", "a,B", "ou", "x"), true},
		{rdns("cn", "a  b"), rdns("cn", " A B "), true},
		{rdns("cn", "ab"), rdns("cn", "a b"), false},
		{rdns("cn", "a"), rdns("sn", "a"), false},
		{rdns("cn", "a"), rdns("cn", "b"), false},
		{rdns("cn", "a"), nil, false},
		{rdns("cn", "a"), rdns("cn", "a", "ou", "x"), false},
		{rdns("cn", "a", "ou", "x"), rdns("cn", "a"), false},
		{rdns("cn", "a", "ou", "x"), rdns("ou", "x", "cn", "a"), false},
		{rdns("cn", "a", "ou", "x"), rdns("cn", "a", "ou", "y"), false},
		{rdns("cn", "a", "ou", "x"), rdns("cn", "b", "ou", "x"), false},
		{rdns("cn", "a", "ou", "x"), rdns("cn", "a", "o", "x"), false},
	} {
		if got := impl.DnSame(c.a, c.b); got != c.want {
			t.Errorf("DnSame(%q, %q) is %t", c.a, c.b, got)
		}
	}
	for _, dn := range invalidDns() {
		if impl.DnSame(dn, dn) || impl.DnSame(dn, nil) || impl.DnSame(rdns("cn", "x"), dn) {
			t.Errorf("invalid %.200q is the same as a DN", dn)
		}
	}
}

func TestDnKeyValues(t *testing.T) {
	for _, c := range []struct {
		dn   []impl.Rdn
		want string
	}{
		{nil, ""},
		{rdns("ou", " X"), "\x01ou=x"},
		{rdns("cn", "A,b", "ou", " x"), "\x01ou=x\x01cn=a,b"},
		{rdns("cn", "a", "ou", "B  C ", "o", "d=e"), "\x01o=d=e\x01ou=b c\x01cn=a"},
	} {
		if got := impl.DnKey(c.dn); got != c.want {
			t.Errorf("DnKey(%q) is %q, want %q", c.dn, got, c.want)
		}
	}
	for _, dn := range invalidDns() {
		if got := impl.DnKey(dn); got != "" {
			t.Errorf("DnKey(%.200q) is %.200q", dn, got)
		}
	}
}

// Promise 5, the first half.
func TestDnIsUnderItsEnds(t *testing.T) {
	for _, dn := range validDns() {
		for at := range len(dn) + 1 {
			if !impl.DnUnder(dn, dn[at:]) {
				t.Errorf("%q is not under %q", dn, dn[at:])
			}
			if at > 0 && impl.DnUnder(dn[at:], dn) {
				t.Errorf("%q is under %q", dn[at:], dn)
			}
		}
	}
}

// Promise 5, the second half.
func TestDnsAreTheSameIfTheirKeysAre(t *testing.T) {
	all := validDns()
	for _, value := range words("aA =", 3) {
		for _, dn := range [][]impl.Rdn{rdns("a", value), rdns("a", value, "a", "a"), rdns("a", "A", "a", value)} {
			if impl.DnRight(dn) {
				all = append(all, dn)
			}
		}
	}
	for _, a := range all {
		for _, b := range all {
			if impl.DnSame(a, b) != (impl.DnKey(a) == impl.DnKey(b)) {
				t.Fatalf("%q and %q: the same is %t, the keys are %q and %q", a, b, impl.DnSame(a, b), impl.DnKey(a), impl.DnKey(b))
			}
		}
	}
}

func TestDnUnder(t *testing.T) {
	for _, c := range []struct {
		dn   []impl.Rdn
		base []impl.Rdn
		want bool
	}{
		{nil, nil, true},
		{nil, rdns("ou", "x"), false},
		{rdns("cn", "a", "ou", "x"), nil, true},
		{rdns("cn", "a", "ou", "x"), rdns("ou", " X "), true},
		{rdns("cn", "a", "ou", "x"), rdns("cn", "A", "ou", "X"), true},
		{rdns("cn", "a", "ou", "x"), rdns("cn", "a"), false},
		{rdns("cn", "a", "ou", "x"), rdns("ou", "y"), false},
		{rdns("cn", "a", "ou", "x"), rdns("o", "x"), false},
		{rdns("cn", "a", "ou", "x"), rdns("cn", "b", "ou", "x"), false},
		{rdns("ou", "x"), rdns("cn", "a", "ou", "x"), false},
		{rdns("cn", "a", "ou", "x", "o", "z"), rdns("cn", "a", "o", "z"), false},
	} {
		if got := impl.DnUnder(c.dn, c.base); got != c.want {
			t.Errorf("DnUnder(%q, %q) is %t", c.dn, c.base, got)
		}
	}
	for _, dn := range invalidDns() {
		if impl.DnUnder(dn, nil) || impl.DnUnder(dn, dn) || impl.DnUnder(append(rdns("cn", "a"), dn...), dn) {
			t.Errorf("invalid %.200q is under a DN", dn)
		}
	}
	// Two ends that agree do not help a base that is invalid.
	if impl.DnUnder(rdns("cn", "a", "ou", "x"), rdns("ou", "x", "cn", "")) {
		t.Error("a DN is under an invalid base")
	}
}

func TestDnParent(t *testing.T) {
	for _, dn := range validDns() {
		var want []impl.Rdn
		if len(dn) > 0 {
			want = dn[1:]
		}
		if got := impl.DnParent(dn); !slices.Equal(got, want) {
			t.Errorf("the parent of %q is %q", dn, got)
		}
	}
	for _, dn := range invalidDns() {
		if got := impl.DnParent(dn); len(got) != 0 {
			t.Errorf("the parent of %.200q is %.200q", dn, got)
		}
	}
}

// Promise 6.
func TestJoinedRdnHasTheDnAsParent(t *testing.T) {
	for _, parent := range validDns() {
		for _, rdn := range rdns("cn", "A,b", "ou", " x", "a23456789_1234567890", strings.Repeat("v", 40)) {
			got := impl.DnJoin(rdn, parent)
			if len(parent) == impl.MaxRdns {
				wantDn(t, "a DN with an RDN too many", got, nil, impl.ErrFull)
				continue
			}
			wantDn(t, "the joined DN", got, append([]impl.Rdn{rdn}, parent...), impl.OK)
			if !slices.Equal(impl.DnParent(got.Dn), parent) || !impl.DnUnder(got.Dn, parent) {
				t.Errorf("%q does not have the parent %q", got.Dn, parent)
			}
		}
	}
}

func TestDnJoinErrors(t *testing.T) {
	good := impl.Rdn{Attr: "cn", Value: "x"}
	for _, dn := range invalidDns() {
		code := int64(impl.ErrForm)
		if len(dn) > impl.MaxList {
			code = impl.ErrSize
		}
		wantDn(t, "an RDN joined to an invalid DN", impl.DnJoin(good, dn), nil, code)
		wantDn(t, "an invalid RDN joined to an invalid DN", impl.DnJoin(impl.Rdn{}, dn), nil, code)
		if len(dn) == 1 {
			wantDn(t, "an invalid RDN joined to a DN", impl.DnJoin(dn[0], rdns("ou", "x")), nil, impl.ErrForm)
			wantDn(t, "an invalid RDN joined to a full DN", impl.DnJoin(dn[0], chain(6)), nil, impl.ErrForm)
		}
	}
	wantDn(t, "an RDN joined to a full DN", impl.DnJoin(good, chain(6)), nil, impl.ErrFull)
	wantDn(t, "an RDN joined to five", impl.DnJoin(good, chain(5)), append([]impl.Rdn{good}, chain(5)...), impl.OK)
}

func shareRdns(a []impl.Rdn, b []impl.Rdn) bool {
	if shareLists(a, b) {
		return true
	}
	for _, x := range a {
		for _, y := range b {
			if shareMemory(x.Attr, y.Attr) || shareMemory(x.Value, y.Value) {
				return true
			}
		}
	}
	return false
}

func TestDnResultsShareNoMemory(t *testing.T) {
	dn := rdns("cn", "A,b", "ou", "x", "o", "y")
	kept := slices.Clone(dn)
	spare := append(make([]impl.Rdn, 0, 9), dn...)
	if shareRdns(impl.DnParent(dn), dn) {
		t.Error("a parent shares memory with its DN")
	}
	if shareRdns(impl.DnJoin(dn[0], spare).Dn, spare) {
		t.Error("a joined DN shares memory with its parent")
	}
	text := impl.DnText(dn)
	for _, rdn := range impl.DnRead(text).Dn {
		if shareMemory(rdn.Attr, text) || shareMemory(rdn.Value, text) {
			t.Errorf("%q shares memory with the text", rdn)
		}
	}
	value := strings.Repeat("plain", 3)
	if shareMemory(impl.Norm(value), value) {
		t.Error("a normalized form shares memory with its value")
	}
	impl.DnKey(dn)
	impl.DnSame(dn, spare)
	impl.DnUnder(dn, spare[1:])
	if !slices.Equal(dn, kept) || !slices.Equal(spare, kept) {
		t.Error("an argument was changed")
	}
}
