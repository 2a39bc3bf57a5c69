package tests

import (
	"math"
	"slices"
	"strconv"
	"strings"
	"testing"

	"loop.example/g00402/impl"
)

// change returns an added person, or the deletion of whatever is there; logOf numbers it.
func change(kind int64, dn string) impl.Change {
	if kind == impl.ChDelete {
		return impl.Change{Kind: kind, Dn: dn}
	}
	return impl.Change{Kind: kind, Dn: dn, Entry: x(attr("mail", "a", "B"))}
}

// logOf returns a log in which the last change has the number before the next one.
func logOf(next int64, changes ...impl.Change) impl.Changes {
	c := impl.Changes{Next: next}
	for i, one := range changes {
		one.Number = next - int64(len(changes)-i)
		c.List = append(c.List, one)
	}
	return c
}

// manyChanges returns changes of every kind, of eight DNs.
func manyChanges(many int) []impl.Change {
	var all []impl.Change
	for i := range many {
		all = append(all, change(changeKinds()[i%4], numbered("cn=u", 8)[i*3%8]))
	}
	return all
}

func logOfMany(next int64, many int) impl.Changes {
	return logOf(next, manyChanges(many)...)
}

func changeKinds() []int64 {
	return []int64{impl.ChAdd, impl.ChDelete, impl.ChModify, impl.ChMove}
}

func noChangeKinds() []int64 {
	return []int64{0, -1, 5, 6, -4, 256 + impl.ChAdd, 1<<32 + impl.ChDelete, math.MaxInt64, math.MinInt64}
}

// wrongDnTexts returns strings that are not the text of a valid DN with an RDN.
func wrongDnTexts() []string {
	all := []string{
		"", " ", "x", "cn", "cn=", "=x", "Cn=x", "cn =x", " cn=x", "cn= x", "cn=x ", "cn=x,", ",cn=x", "cn=x, ou=x", "cn=x,,ou=x", "cn=x,ou",
		`cn=\x`, `cn=x\`, `cn=\20x`, `cn=x\2c`, `cn=a\#`, `cn=a\ b`, "cn=#", "cn=a+b", "cn=a=b", "cn=a\tb", "cn=\xff",
		"cn=" + strings.Repeat("v", 41), strings.Repeat("a", 21) + "=x", "cn=x" + strings.Repeat(",cn=x", 6),
		strings.Repeat("x", impl.MaxBytes), strings.Repeat("x", impl.MaxBytes+1), "cn=" + strings.Repeat("v", impl.MaxBytes),
	}
	for _, dn := range invalidDns() {
		all = append(all, dnTextOf(dn))
	}
	return all
}

// wrongChanges returns changes that break one rule each, whatever their number is.
func wrongChanges() []impl.Change {
	all := []impl.Change{{}, {Kind: impl.ChAdd}, {Kind: impl.ChDelete}}
	for _, kind := range noChangeKinds() {
		all = append(all, impl.Change{Kind: kind, Dn: "cn=x", Entry: x()}, impl.Change{Kind: kind, Dn: "cn=x"})
	}
	for _, kind := range changeKinds() {
		for _, text := range wrongDnTexts() {
			all = append(all, change(kind, text))
		}
		for _, e := range wrongResults(kind) {
			all = append(all, impl.Change{Kind: kind, Dn: "cn=x", Entry: e})
		}
	}
	return all
}

// wrongResults returns entries that a change of the kind cannot leave.
func wrongResults(kind int64) []impl.Entry {
	if kind != impl.ChDelete {
		return invalidEntries()
	}
	all := []impl.Entry{{Dn: rdns("cn", "x")}, {Dn: chain(7)}, {Dn: make([]impl.Rdn, 1)}, {Attrs: manyAttrs(1)}, {Attrs: make([]impl.Attr, 1)}}
	return append(all, validEntries()...)
}

func validLogs() []impl.Changes {
	all := []impl.Changes{{Next: 1, List: []impl.Change{}}, logOf(2, change(impl.ChAdd, "cn=x"))}
	for _, next := range []int64{1, 2, 5, impl.MaxTime - 1, impl.MaxTime} {
		all = append(all, logOf(next))
	}
	for many := range impl.MaxChanges + 1 {
		all = append(all, logOfMany(int64(many)+1, many), logOfMany(int64(many)+2, many), logOfMany(impl.MaxTime, many))
	}
	for _, dn := range validDns() {
		if len(dn) > 0 {
			all = append(all, logOf(7, change(impl.ChMove, "cn=x"), change(impl.ChDelete, dnTextOf(dn)), change(impl.ChAdd, dnTextOf(dn))))
		}
	}
	for _, e := range validEntries() {
		all = append(all, logOf(9, impl.Change{Kind: impl.ChAdd, Dn: "cn=x", Entry: e}, impl.Change{Kind: impl.ChModify, Dn: "cn=y", Entry: e}))
	}
	empty := impl.Entry{Dn: []impl.Rdn{}, Attrs: []impl.Attr{}}
	return append(all, logOf(3, impl.Change{Kind: impl.ChDelete, Dn: "cn=x", Entry: empty}))
}

// logNumbered returns a log of deletions with these numbers.
func logNumbered(next int64, numbers ...int64) impl.Changes {
	c := impl.Changes{Next: next}
	for _, number := range numbers {
		c.List = append(c.List, impl.Change{Number: number, Kind: impl.ChDelete, Dn: "cn=x"})
	}
	return c
}

// invalidLogs returns logs that break one rule each.
func invalidLogs() []impl.Changes {
	all := []impl.Changes{
		logNumbered(5, 3), logNumbered(5, 5), logNumbered(5, 6), logNumbered(5, 1), logNumbered(5, 0), logNumbered(5, -4),
		logNumbered(5, 1<<32+4), logNumbered(5, 4-1<<32), logNumbered(5, math.MaxInt64), logNumbered(5, math.MinInt64),
		logNumbered(5, 2, 3), logNumbered(5, 4, 5), logNumbered(5, 4, 3), logNumbered(5, 4, 4), logNumbered(5, 2, 4), logNumbered(5, 3, 5),
		logNumbered(5, 3, 3, 4), logNumbered(5, 1, 3, 4), logNumbered(5, 2, 2, 4), logNumbered(5, 3, 2, 4), logNumbered(5, 3, 4, 4),
		logNumbered(1, 0), logNumbered(1, 1), logNumbered(1, -1, 0), logNumbered(2, 0, 1), logNumbered(3, 0, 1, 2), logNumbered(3, -1, 0, 1, 2),
		logNumbered(0, -1), logNumbered(-1, -2), logNumbered(impl.MaxTime+1, impl.MaxTime), logNumbered(math.MinInt64, math.MaxInt64),
		logOfMany(40, 40), logOfMany(1, 40), logOfMany(42, 41), logOfMany(90, 41), logOfMany(impl.MaxTime, 41), logOfMany(500, impl.MaxList+1),
	}
	for _, next := range []int64{0, -1, impl.MaxTime + 1, 1<<32 + 5, math.MaxInt64, math.MinInt64} {
		all = append(all, impl.Changes{Next: next}, impl.Changes{Next: next, List: []impl.Change{}}, logOfMany(next, 3))
	}
	for _, wrong := range wrongChanges() {
		all = append(all, logOf(7, wrong))
	}
	// These are wrong in one place of several.
	for _, wrong := range []impl.Change{{}, change(5, "cn=x"), change(impl.ChAdd, ""), change(impl.ChMove, "Cn=x"), {Kind: impl.ChModify, Dn: "cn=x"}} {
		for _, place := range []int{0, 1, 20, 38, 39} {
			c := logOfMany(50, 39)
			all = append(all, logOf(50, slices.Insert(c.List, place, wrong)...))
		}
	}
	return all
}

func equalChange(a impl.Change, b impl.Change) bool {
	return a.Number == b.Number && a.Kind == b.Kind && a.Dn == b.Dn && equalEntry(a.Entry, b.Entry)
}

func wantChanges(t *testing.T, what string, got []impl.Change, want []impl.Change) {
	t.Helper()
	if !slices.EqualFunc(got, want, equalChange) {
		t.Errorf("%s: the changes are %.900q, want %.900q", what, told(got), told(want))
	}
}

func wantLog(t *testing.T, what string, got impl.ChangesOut, want impl.Changes) {
	t.Helper()
	wantChanges(t, what, got.Changes.List, want.List)
	if got.Changes.Next != want.Next || len(got.List) > 0 || got.Code != impl.OK {
		t.Errorf("%s: the next number is %d with code %d and %d changes beside, want %d", what, got.Changes.Next, got.Code, len(got.List), want.Next)
	}
	if !impl.ChangesRight(got.Changes) {
		t.Errorf("%s: the log is not valid", what)
	}
}

func wantSince(t *testing.T, what string, got impl.ChangesOut, want []impl.Change) {
	t.Helper()
	wantChanges(t, what, got.List, want)
	if got.Changes.Next != 0 || len(got.Changes.List) > 0 || got.Code != impl.OK {
		t.Errorf("%s: the code is %d and the log beside has the next number %d", what, got.Code, got.Changes.Next)
	}
}

func wantLogCode(t *testing.T, what string, got impl.ChangesOut, code int64) {
	t.Helper()
	if got.Changes.Next != 0 || len(got.Changes.List) > 0 || len(got.List) > 0 || got.Code != code {
		t.Errorf("%s: the code is %d, want %d; %d and %d changes are beside", what, got.Code, code, len(got.Changes.List), len(got.List))
	}
}

// told returns the changes as texts for a message.
func told(l []impl.Change) []string {
	var out []string
	for _, one := range l {
		parts := append([]string{strconv.FormatInt(one.Number, 10), strconv.FormatInt(one.Kind, 10), one.Dn}, textsOf(one.Entry)...)
		out = append(out, strings.Join(parts, " "))
	}
	return out
}

func TestChangeConstants(t *testing.T) {
	if impl.MaxChanges != 40 || impl.MaxTime != 1000000 {
		t.Errorf("the limits are %d and %d", impl.MaxChanges, impl.MaxTime)
	}
	if !slices.Equal(changeKinds(), []int64{1, 2, 3, 4}) {
		t.Errorf("the kinds are %v", changeKinds())
	}
}

func TestChapter9Example(t *testing.T) {
	e := x(attr("mail", "a"))
	added := impl.ChangeAdd(impl.Changes{Next: 5}, impl.ChAdd, e.Dn, e)
	first := impl.Change{Number: 5, Kind: impl.ChAdd, Dn: "cn=x", Entry: e}
	second := impl.Change{Number: 6, Kind: impl.ChDelete, Dn: "cn=x"}
	wantLog(t, "adding", added, impl.Changes{Next: 6, List: []impl.Change{first}})
	deleted := impl.ChangeAdd(added.Changes, impl.ChDelete, e.Dn, impl.Entry{})
	wantLog(t, "deleting", deleted, impl.Changes{Next: 7, List: []impl.Change{first, second}})
	wantSince(t, "since 5", impl.ChangesSince(deleted.Changes, 5), []impl.Change{second})
	wantLogCode(t, "since 3", impl.ChangesSince(deleted.Changes, 3), impl.ErrRange)
	wantLogCode(t, "since 7", impl.ChangesSince(deleted.Changes, 7), impl.ErrRange)
	wantSince(t, "since 4", impl.ChangesSince(deleted.Changes, 4), []impl.Change{first, second})
	wantSince(t, "since 6", impl.ChangesSince(deleted.Changes, 6), nil)
	wantChanges(t, "the latest", impl.Latest(deleted.Changes.List), []impl.Change{second})
}

func TestChangesRight(t *testing.T) {
	for i, c := range validLogs() {
		if !impl.ChangesRight(c) {
			t.Errorf("valid log %d: %d, %.900q is not valid", i, c.Next, told(c.List))
		}
	}
	for i, c := range invalidLogs() {
		if impl.ChangesRight(c) {
			t.Errorf("invalid log %d: %d, %.900q is valid", i, c.Next, told(c.List))
		}
	}
	if impl.ChangesRight(impl.Changes{}) {
		t.Error("the zero log is valid")
	}
}

// Every log whose next number is at most 6, with up to three deletions whose numbers are in -1..7.
func TestNumbersOfValidLogs(t *testing.T) {
	valid := 0
	for next := int64(-1); next <= 6; next++ {
		for code := range 10 * 10 * 10 {
			// A digit is a number of the log, and 0 is none.
			var numbers []int64
			for rest := code; rest > 0; rest /= 10 {
				if digit := int64(rest % 10); digit > 0 {
					numbers = append(numbers, digit-2)
				}
			}
			want := next >= 1
			for i, number := range numbers {
				want = want && number >= 1 && number == next-int64(len(numbers))+int64(i)
			}
			if impl.ChangesRight(logNumbered(next, numbers...)) != want {
				t.Errorf("the validity of a log with next %d and the numbers %d is %v", next, numbers, !want)
			}
			if want {
				valid++
			}
		}
	}
	if valid < 20 {
		t.Errorf("%d logs are valid", valid)
	}
}

func TestChangeAdd(t *testing.T) {
	for _, c := range validLogs() {
		for _, kind := range changeKinds() {
			got, want := impl.ChangeAdd(c, kind, dnOf("cn=new,ou=X"), change(kind, "").Entry), change(kind, "cn=new,ou=X")
			if len(c.List) == 40 || c.Next == 1000000 {
				wantLogCode(t, "no room", got, impl.ErrFull)
				continue
			}
			want.Number = c.Next
			wantLog(t, "adding", got, impl.Changes{Next: c.Next + 1, List: append(slices.Clone(c.List), want)})
		}
	}
	for _, dn := range validDns() {
		got := impl.ChangeAdd(logOf(3), impl.ChDelete, dn, impl.Entry{})
		if len(dn) == 0 {
			wantLogCode(t, "the root", got, impl.ErrForm)
			continue
		}
		wantLog(t, "a DN", got, logOf(4, impl.Change{Kind: impl.ChDelete, Dn: dnTextOf(dn)}))
	}
	// The entry need not be that of the DN, and what the spelling of a DN is, stays.
	for _, e := range validEntries() {
		for _, kind := range []int64{impl.ChAdd, impl.ChModify, impl.ChMove} {
			want := logOf(4, impl.Change{Kind: kind, Dn: "ou=U,cn=X y", Entry: e})
			wantLog(t, "an entry", impl.ChangeAdd(logOf(3), kind, rdns("ou", "U", "cn", "X y"), e), want)
		}
	}
	empty := impl.Entry{Dn: []impl.Rdn{}, Attrs: []impl.Attr{}}
	wantLog(t, "an empty entry", impl.ChangeAdd(logOf(1), impl.ChDelete, dnOf("cn=x"), empty), logOf(2, change(impl.ChDelete, "cn=x")))
}

func TestChangeAddErrors(t *testing.T) {
	dn, e := rdns("cn", "x"), x()
	// The full logs show that ErrForm comes first.
	for _, c := range []impl.Changes{logOf(1), logOfMany(50, 39), logOfMany(41, 40), logOfMany(impl.MaxTime, 40), logOf(impl.MaxTime), logOfMany(impl.MaxTime-1, 39)} {
		for _, kind := range noChangeKinds() {
			wantLogCode(t, "no kind", impl.ChangeAdd(c, kind, dn, e), impl.ErrForm)
			wantLogCode(t, "no kind without an entry", impl.ChangeAdd(c, kind, dn, impl.Entry{}), impl.ErrForm)
		}
		for _, kind := range changeKinds() {
			wantLogCode(t, "an empty DN", impl.ChangeAdd(c, kind, []impl.Rdn{}, change(kind, "").Entry), impl.ErrForm)
			for _, wrong := range invalidDns() {
				if len(wrong) <= impl.MaxList {
					wantLogCode(t, "an invalid DN", impl.ChangeAdd(c, kind, wrong, change(kind, "").Entry), impl.ErrForm)
				}
			}
			for _, wrong := range wrongResults(kind) {
				wantLogCode(t, "a wrong entry", impl.ChangeAdd(c, kind, dn, wrong), impl.ErrForm)
			}
		}
	}
	for _, c := range invalidLogs() {
		wantLogCode(t, "an invalid log", impl.ChangeAdd(c, impl.ChAdd, dn, e), impl.ErrForm)
		wantLogCode(t, "an invalid log with a deletion", impl.ChangeAdd(c, impl.ChDelete, dn, impl.Entry{}), impl.ErrForm)
		wantLogCode(t, "all wrong", impl.ChangeAdd(c, 0, nil, impl.Entry{}), impl.ErrForm)
	}
	for _, c := range []impl.Changes{logOfMany(41, 40), logOfMany(900, 40), logOfMany(impl.MaxTime, 40), logOf(impl.MaxTime), logOfMany(impl.MaxTime, 3)} {
		for _, kind := range changeKinds() {
			wantLogCode(t, "no room", impl.ChangeAdd(c, kind, dn, change(kind, "").Entry), impl.ErrFull)
		}
	}
	last := impl.ChangeAdd(logOf(impl.MaxTime-1), impl.ChAdd, dn, e)
	wantLog(t, "the last number", last, logOf(impl.MaxTime, impl.Change{Kind: impl.ChAdd, Dn: "cn=x", Entry: e}))
	wantLogCode(t, "behind the last number", impl.ChangeAdd(last.Changes, impl.ChAdd, dn, e), impl.ErrFull)
	wantLogCode(t, "after trimming all", impl.ChangeAdd(impl.ChangesTrim(last.Changes, impl.MaxTime).Changes, impl.ChAdd, dn, e), impl.ErrFull)
}

func TestChangeSizeLimits(t *testing.T) {
	for _, c := range []impl.Changes{logOf(5), logOfMany(41, 40), logOf(impl.MaxTime), {}, logOfMany(42, 41)} {
		wantLogCode(t, "401 RDNs", impl.ChangeAdd(c, impl.ChDelete, chain(impl.MaxList+1), impl.Entry{}), impl.ErrSize)
		wantLogCode(t, "401 RDNs and no kind", impl.ChangeAdd(c, 0, chain(impl.MaxList+1), x()), impl.ErrSize)
		wantLogCode(t, "400 RDNs", impl.ChangeAdd(c, impl.ChDelete, chain(impl.MaxList), impl.Entry{}), impl.ErrForm)
	}
	// What is a field of a struct is invalid and not too long.
	long := logOfMany(500, impl.MaxList+1)
	wantLogCode(t, "adding to 401 changes", impl.ChangeAdd(long, impl.ChDelete, dnOf("cn=x"), impl.Entry{}), impl.ErrForm)
	wantLogCode(t, "401 changes", impl.ChangesSince(long, 499), impl.ErrForm)
	wantLogCode(t, "trimming 401 changes", impl.ChangesTrim(long, 499), impl.ErrForm)
	wantLogCode(t, "401 attributes", impl.ChangeAdd(logOf(5), impl.ChAdd, dnOf("cn=x"), person(manyAttrs(impl.MaxList+1)...)), impl.ErrForm)
	for _, many := range []int{41, 42, impl.MaxList, impl.MaxList + 1, 2 * impl.MaxList} {
		wantChanges(t, "the latest of too many", impl.Latest(make([]impl.Change, many)), nil)
		wantChanges(t, "the latest of too many", impl.Latest(logOfMany(1000, many).List), nil)
	}
}

// farNumbers returns numbers that no log has.
func farNumbers() []int64 {
	return []int64{-1, -2, -40, math.MinInt64, math.MinInt64 + 1, math.MaxInt64, math.MaxInt64 - 1, impl.MaxTime + 1, 1<<32 + 3, -1 << 32, 1 << 62}
}

// story is all changes that were ever added to a log, from a number on, and how many of them have been removed.
type story struct {
	from    int64
	changes []impl.Change
	removed int
}

// since is the rule for ChangesSince: whatever was before the story counts as removed.
func (s story) since(number int64) ([]impl.Change, int64) {
	next := s.from + int64(len(s.changes))
	if number < 0 || number >= next || number+1 < s.from {
		return nil, impl.ErrRange
	}
	var later []impl.Change
	for i, one := range s.changes {
		if one.Number > number && i < s.removed {
			return nil, impl.ErrRange
		}
		if one.Number > number {
			later = append(later, one)
		}
	}
	return later, impl.OK
}

func checkSince(t *testing.T, c impl.Changes, s story, number int64, seen map[int64]int) {
	t.Helper()
	later, code := s.since(number)
	seen[code]++
	if code != impl.OK {
		wantLogCode(t, "by the rule", impl.ChangesSince(c, number), code)
		return
	}
	wantSince(t, "by the rule", impl.ChangesSince(c, number), later)
}

// Promise 19.
func TestReaderGetsAllLaterChanges(t *testing.T) {
	seen := make(map[int64]int)
	for _, next := range []int64{1, 2, 7, impl.MaxTime - 60} {
		c, s := impl.Changes{Next: next}, story{from: next}
		for i, one := range manyChanges(60) {
			one.Number = c.Next
			s.changes = append(s.changes, one)
			out := impl.ChangeAdd(c, one.Kind, dnOf(one.Dn), one.Entry)
			wantLog(t, "adding", out, impl.Changes{Next: one.Number + 1, List: s.changes[s.removed:]})
			c = out.Changes
			if i%13 == 12 {
				kept := i % 3 * 4
				s.removed = len(s.changes) - kept
				c = impl.ChangesTrim(c, c.Next-int64(kept)).Changes
				wantChanges(t, "after trimming", c.List, s.changes[s.removed:])
			}
			for number := next - 3; number <= c.Next+2; number++ {
				checkSince(t, c, s, number, seen)
			}
			for _, number := range append(farNumbers(), 0, 1) {
				checkSince(t, c, s, number, seen)
			}
		}
	}
	if seen[impl.OK] < 500 || seen[impl.ErrRange] < 500 {
		t.Errorf("the codes were %v", seen)
	}
}

// Promise 19, for a reader that comes now and then.
func TestReaderGetsEveryChangeOnce(t *testing.T) {
	for pause := 1; pause <= 40; pause++ {
		c := impl.Changes{Next: 3}
		processed := c.Next - 1
		var history, read []impl.Change
		for i, one := range manyChanges(120) {
			one.Number = c.Next
			history = append(history, one)
			c = impl.ChangeAdd(c, one.Kind, dnOf(one.Dn), one.Entry).Changes
			if i%pause != pause-1 && i != 119 {
				continue
			}
			for _, later := range impl.ChangesSince(c, processed).List {
				processed = later.Number
				read = append(read, later)
			}
			wantSince(t, "after reading", impl.ChangesSince(c, processed), nil)
			c = impl.ChangesTrim(c, processed+1).Changes
			wantSince(t, "after trimming what was read", impl.ChangesSince(c, processed), nil)
		}
		wantChanges(t, "what was read", read, history)
	}
}

func TestChangesSince(t *testing.T) {
	for _, c := range validLogs() {
		removed := c.Next - 1 - int64(len(c.List))
		for i := range len(c.List) + 1 {
			wantSince(t, "since a number", impl.ChangesSince(c, removed+int64(i)), c.List[i:])
		}
		for _, number := range append(farNumbers(), c.Next, c.Next+1, removed-1, removed-2) {
			wantLogCode(t, "out of range", impl.ChangesSince(c, number), impl.ErrRange)
		}
	}
	wantSince(t, "the first log", impl.ChangesSince(logOf(1), 0), nil)
	wantLogCode(t, "the first log since 1", impl.ChangesSince(logOf(1), 1), impl.ErrRange)
	wantLogCode(t, "a log without changes since 0", impl.ChangesSince(logOf(5), 0), impl.ErrRange)
	wantLogCode(t, "a log without changes since 3", impl.ChangesSince(logOf(5), 3), impl.ErrRange)
	wantSince(t, "a log without changes since 4", impl.ChangesSince(logOf(5), 4), nil)
	wantLogCode(t, "a log without changes since 5", impl.ChangesSince(logOf(5), 5), impl.ErrRange)
	for _, c := range invalidLogs() {
		for _, number := range []int64{c.Next - 1, c.Next - 2, 0, 4, c.Next, -1} {
			wantLogCode(t, "an invalid log", impl.ChangesSince(c, number), impl.ErrForm)
		}
	}
}

func TestChangesTrim(t *testing.T) {
	for _, c := range validLogs() {
		first := c.Next - int64(len(c.List))
		for _, before := range append(farNumbers(), 0, 1, first-2, first-1, first, first+1, first+7, first+8, c.Next-2, c.Next-1, c.Next, c.Next+1, impl.MaxTime) {
			want := impl.Changes{Next: c.Next}
			for _, one := range c.List {
				if one.Number >= before {
					want.List = append(want.List, one)
				}
			}
			got := impl.ChangesTrim(c, before)
			wantLog(t, "trimming", got, want)
			wantLog(t, "trimming again", impl.ChangesTrim(got.Changes, before), want)
			wantLog(t, "trimming less", impl.ChangesTrim(got.Changes, -5), want)
		}
	}
	c := logOfMany(11, 5)
	wantLog(t, "before the first", impl.ChangesTrim(c, 6), c)
	wantLog(t, "in the middle", impl.ChangesTrim(c, 8), impl.Changes{Next: 11, List: c.List[2:]})
	wantLog(t, "before the last", impl.ChangesTrim(c, 10), impl.Changes{Next: 11, List: c.List[4:]})
	wantLog(t, "behind the last", impl.ChangesTrim(c, 11), impl.Changes{Next: 11})
	for _, c := range invalidLogs() {
		for _, before := range []int64{0, c.Next, c.Next - 1, math.MaxInt64, math.MinInt64} {
			wantLogCode(t, "an invalid log", impl.ChangesTrim(c, before), impl.ErrForm)
		}
	}
}

// latestOf is the rule for Latest: from the end on, what has not been seen.
func latestOf(l []impl.Change) []impl.Change {
	var out []impl.Change
	for i := len(l) - 1; i >= 0; i-- {
		if !slices.ContainsFunc(out, func(other impl.Change) bool { return other.Dn == l[i].Dn }) {
			out = append(out, l[i])
		}
	}
	slices.Reverse(out)
	return out
}

func TestLatest(t *testing.T) {
	for _, c := range validLogs() {
		wantChanges(t, "the latest of a log", impl.Latest(c.List), latestOf(c.List))
	}
	for many := range 41 {
		l := logOfMany(100, many).List
		wantChanges(t, "the latest", impl.Latest(l), latestOf(l))
		wantChanges(t, "the latest of the latest", impl.Latest(impl.Latest(l)), latestOf(l))
	}
	wantChanges(t, "of nothing", impl.Latest(nil), nil)
	wantChanges(t, "of an empty list", impl.Latest([]impl.Change{}), nil)
	cased := logOf(9, change(impl.ChAdd, "cn=x"), change(impl.ChAdd, "cn=X"), change(impl.ChModify, "cn=x"), change(impl.ChMove, "cn=x,ou=X"), change(impl.ChDelete, "cn=x,ou=x"))
	wantChanges(t, "of DNs that differ in case", impl.Latest(cased.List), cased.List[1:])
	spaced := logOf(9, change(impl.ChAdd, `cn=a  b`), change(impl.ChAdd, "cn=a b"))
	wantChanges(t, "of DNs that differ in spaces", impl.Latest(spaced.List), spaced.List)
	last := logOf(9, change(impl.ChDelete, "cn=a"), change(impl.ChAdd, "cn=b"), change(impl.ChAdd, "cn=c"), change(impl.ChAdd, "cn=b"), change(impl.ChModify, "cn=a"))
	wantChanges(t, "in the order of the last ones", impl.Latest(last.List), last.List[2:])
	same := slices.Repeat([]impl.Change{change(impl.ChAdd, "cn=x")}, 40)
	wantChanges(t, "of 40 changes of one DN", impl.Latest(logOf(41, same...).List), logOf(41, same...).List[39:])
	var different []impl.Change
	for _, name := range numbered("cn=u", 40) {
		different = append(different, change(impl.ChAdd, name))
	}
	wantChanges(t, "of 40 changes of 40 DNs", impl.Latest(logOf(41, different...).List), logOf(41, different...).List)
}

// The chapter asks nothing of the list of Latest but its length.
func TestLatestOfAnyChanges(t *testing.T) {
	for _, wrong := range wrongChanges() {
		wantChanges(t, "of a wrong change", impl.Latest([]impl.Change{wrong}), []impl.Change{wrong})
		l := []impl.Change{wrong, {Number: 9, Dn: wrong.Dn + "x"}, {Number: -1, Dn: wrong.Dn}}
		wantChanges(t, "of wrong changes", impl.Latest(l), l[1:])
	}
	l := []impl.Change{{Number: 7, Dn: "cn=x"}, {Number: 3, Dn: "cn=y"}, {Number: 3, Dn: "cn=x"}, {Number: 1}}
	wantChanges(t, "of any numbers", impl.Latest(l), l[1:])
}

// roomyChanges returns a copy of changes in which every list has spare room.
func roomyChanges(l []impl.Change) []impl.Change {
	out := make([]impl.Change, 0, 50)
	for _, one := range l {
		one.Entry = roomy(one.Entry)
		out = append(out, one)
	}
	return out
}

// untouchedChanges reports whether the changes and the spare room of their lists are as roomyChanges made them.
func untouchedChanges(l []impl.Change, kept []impl.Change) bool {
	for i, one := range l {
		if !equalChange(one, kept[i]) || !untouched(one.Entry, kept[i].Entry) {
			return false
		}
	}
	for _, one := range l[len(l):cap(l)] {
		if !equalChange(one, impl.Change{}) {
			return false
		}
	}
	return len(l) == len(kept)
}

func shareChanges(a []impl.Change, b []impl.Change) bool {
	if shareLists(a, b) {
		return true
	}
	for _, first := range a {
		for _, second := range b {
			if shareMemory(first.Dn, second.Dn) || shareEntries(first.Entry, second.Entry) {
				return true
			}
		}
	}
	return false
}

// repeatsChanges reports whether two changes of a list share memory.
func repeatsChanges(l []impl.Change) bool {
	for i := range l {
		for k := range i {
			if shareMemory(l[i].Dn, l[k].Dn) || shareEntries(l[i].Entry, l[k].Entry) {
				return true
			}
		}
	}
	return false
}

func TestChangeResultsShareNoMemory(t *testing.T) {
	// The runtime has strings of one byte only once, so all are longer.
	ann := placed("cn=Ann,ou=xx", attr("mail", "B@x", "d@x"))
	kept := logOf(9,
		impl.Change{Kind: impl.ChAdd, Dn: "cn=Ann,ou=xx", Entry: ann},
		impl.Change{Kind: impl.ChDelete, Dn: "cn=Bob"},
		impl.Change{Kind: impl.ChModify, Dn: "cn=Ann,ou=xx", Entry: ann},
		impl.Change{Kind: impl.ChMove, Dn: "cn=Eve", Entry: placed("ou=yy")},
	)
	c := impl.Changes{Next: kept.Next, List: roomyChanges(kept.List)}
	dn, e := append(make([]impl.Rdn, 0, 10), dnOf("cn=Joe,ou=xx")...), roomy(ann)
	twice := slices.Repeat(c.List[:1], 2)
	twice[1].Dn = c.List[3].Dn
	results := map[string][]impl.Change{
		"ChangeAdd":              impl.ChangeAdd(c, impl.ChAdd, dn, e).Changes.List,
		"ChangeAdd of a removal": impl.ChangeAdd(c, impl.ChDelete, dn, impl.Entry{}).Changes.List,
		"ChangesSince":           impl.ChangesSince(c, 6).List,
		"ChangesSince the first": impl.ChangesSince(c, 4).List,
		"ChangesTrim":            impl.ChangesTrim(c, 7).Changes.List,
		"ChangesTrim of nothing": impl.ChangesTrim(c, 0).Changes.List,
		"Latest":                 impl.Latest(c.List),
		"Latest of one":          impl.Latest(c.List[3:]),
		"Latest of shared ones":  impl.Latest(twice),
	}
	for what, got := range results {
		if len(got) == 0 || shareChanges(got, c.List) || repeatsChanges(got) {
			t.Errorf("%s: %q shares memory with the log or within itself", what, told(got))
		}
		for _, one := range got {
			if shareEntries(one.Entry, e) || shareTexts(append(textsOf(one.Entry), one.Dn), textsOf(impl.Entry{Dn: dn})) {
				t.Errorf("%s: %q shares memory with an argument", what, told([]impl.Change{one}))
			}
		}
	}
	impl.ChangesRight(c)
	if !untouchedChanges(c.List, kept.List) || !untouched(e, ann) || !slices.Equal(dn[:3], append(dnOf("cn=Joe,ou=xx"), impl.Rdn{})) {
		t.Errorf("an argument was changed: %q, %q, %q", told(c.List), e, dn)
	}
}
