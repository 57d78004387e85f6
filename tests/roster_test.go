package tests

import (
	"fmt"
	"math"
	"math/rand"
	"slices"
	"strings"
	"testing"

	"loop.example/g00387/impl"
)

const nameLimit = 30

// contact returns an item with a Name and a Group.
func contact(jid string, version int64) impl.Item {
	return impl.Item{Jid: jid, Name: "N " + jid[:1], Group: "work", Version: version}
}

func gone(jid string, version int64) impl.Item {
	return impl.Item{Jid: jid, Version: version, Gone: true}
}

func rosterWith(version int64, items ...impl.Item) impl.Roster {
	return impl.Roster{Version: version, Items: items}
}

// itemsOfTests returns so many items, of which the later ones have the lesser versions, and every third one is gone.
func itemsOfTests(count int) []impl.Item {
	var list []impl.Item
	for i := range count {
		jid := fmt.Sprintf("u%03d@a", i)
		switch version := int64(count - i); i % 3 {
		case 0:
			list = append(list, contact(jid, version))
		case 1:
			list = append(list, impl.Item{Jid: jid, Version: version})
		default:
			list = append(list, gone(jid, version))
		}
	}
	return list
}

func fullRoster() impl.Roster {
	return rosterWith(impl.MaxItems, itemsOfTests(impl.MaxItems)...)
}

// mixedRoster has items in two groups and in none, and one that is gone.
func mixedRoster() impl.Roster {
	return rosterWith(9,
		contact("ann@a", 7),
		impl.Item{Jid: "bob@b", Name: "Bob", Version: 2},
		gone("cat@a", 8),
		impl.Item{Jid: "dan@a", Group: "home", Version: 1},
		contact("eve@c", 4))
}

// oneItem returns a roster of one item with one change to it.
func oneItem(change func(item *impl.Item)) impl.Roster {
	item := contact("ann@a", 2)
	change(&item)
	return rosterWith(3, item)
}

func namesOfTests() []string {
	return []string{"", "A", " ", "~", "Ann B. <&'\"/>", long(nameLimit - 1), long(nameLimit), strings.Repeat(" ", nameLimit)}
}

func groupsOfTests() []string {
	return []string{"", "a", "work", "a_9", long(20)}
}

func textsThatAreNoItemNames() []string {
	return []string{"\n", "\x00", "\x1f", "\x7f", "\x80", "\xff", "é", "A\t", long(nameLimit-1) + "\n", long(nameLimit + 1), strings.Repeat("é", nameLimit/2), long(impl.MaxBytes)}
}

func textsThatAreNoGroups() []string {
	return []string{" ", "_a", "9", "Work", "a-b", "a b", "a.b", "é", "a\x00", long(21), long(impl.MaxBytes)}
}

func textsThatAreNoBareAddresses() []string {
	list := []string{"", "a", "a.b", "ann@a/x", "a/x", "a/x@y", "ann@a/", "Ann@a", "ANN@A", "ann@a.", "ann@a@b", " ann@a", "ann@a ", "ann@", "@a", long(31) + "@a", "a@" + long(31)}
	for _, text := range textsThatAreNoAddresses() {
		if len(text) <= impl.MaxBytes {
			list = append(list, text)
		}
	}
	return list
}

func validRosters() []impl.Roster {
	list := []impl.Roster{
		{}, {Items: []impl.Item{}}, rosterWith(1), rosterWith(impl.MaxTime - 1), rosterWith(impl.MaxTime),
		rosterWith(1, contact("ann@a", 1)), rosterWith(1, gone("ann@a", 1)),
		rosterWith(2, contact("ann@a", 1)), rosterWith(2, contact("ann@a", 1), contact("bob@b", 2)), rosterWith(2, contact("ann@a", 2), contact("bob@b", 1)),
		rosterWith(2, gone("ann@a", 2), gone("bob@b", 1)),
		rosterWith(impl.MaxTime, contact("ann@a", 1)), rosterWith(impl.MaxTime, contact("ann@a", impl.MaxTime)), rosterWith(impl.MaxTime, gone("ann@a", impl.MaxTime-1)),
		rosterWith(impl.MaxTime-1, contact("ann@a", impl.MaxTime-1), gone("bob@b", impl.MaxTime-2)),
		// The order is that of the bytes, and not that of domains or of letters.
		rosterWith(9, contact("-@z", 3), contact(".@y", 4), contact("0@x", 5), contact("_@a", 6), contact("a-b@a", 9), contact("a@b", 7), contact("aa@a", 8)),
		rosterWith(3, contact("a@a", 3), contact("a@a-b", 2), contact("a@a.b", 1)),
		mixedRoster(), fullRoster(),
		rosterWith(impl.MaxTime, itemsOfTests(impl.MaxItems)...),
		rosterWith(impl.MaxTime-1, itemsOfTests(impl.MaxItems)...),
		rosterWith(impl.MaxItems-1, itemsOfTests(impl.MaxItems-1)...),
		rosterWith(impl.MaxTime, itemsOfTests(impl.MaxItems-1)...),
		oneItem(func(item *impl.Item) { item.Jid = long(30) + "@" + long(30) }),
	}
	for _, name := range namesOfTests() {
		for _, group := range groupsOfTests() {
			list = append(list, oneItem(func(item *impl.Item) { item.Name, item.Group = name, group }))
		}
	}
	return list
}

func invalidRosters() []impl.Roster {
	list := []impl.Roster{
		rosterWith(-1), rosterWith(impl.MaxTime + 1), rosterWith(math.MinInt64), rosterWith(math.MaxInt64), rosterWith(1<<32 + 1),
		rosterWith(-1, contact("ann@a", 1)), rosterWith(impl.MaxTime+1, contact("ann@a", 1)), rosterWith(0, contact("ann@a", 1)), rosterWith(0, impl.Item{}), rosterWith(3, impl.Item{}),
		rosterWith(impl.MaxItems+1, itemsOfTests(impl.MaxItems+1)...), rosterWith(impl.MaxTime, itemsOfTests(impl.MaxItems+1)...), rosterWith(impl.MaxTime, itemsOfTests(impl.MaxList+1)...),
		rosterWith(3, contact("ann@a", 1), contact("ann@a", 2)), rosterWith(3, contact("ann@a", 1), gone("ann@a", 2)), rosterWith(3, gone("ann@a", 1), gone("ann@a", 2)),
		rosterWith(3, contact("bob@b", 1), contact("ann@a", 2)), rosterWith(3, contact("ann@a", 1), contact("eve@c", 2), contact("bob@b", 3)),
		rosterWith(9, contact("aa@a", 1), contact("a@b", 2)), rosterWith(3, contact("b@a", 1), contact("a@b", 2)),
		rosterWith(3, contact("ann@a", 2), contact("bob@b", 2)), rosterWith(3, contact("ann@a", 2), gone("bob@b", 2)), rosterWith(3, contact("ann@a", 2), contact("bob@b", 1), contact("cat@a", 2)),
		rosterWith(3, contact("ann@a", 3), contact("bob@b", 3)), rosterWith(3, contact("ann@a", 1), contact("bob@b", 4)), rosterWith(3, contact("ann@a", 0), contact("bob@b", 3)),
		oneItem(func(item *impl.Item) { item.Gone = true }),
		oneItem(func(item *impl.Item) { item.Gone, item.Name = true, "" }),
		oneItem(func(item *impl.Item) { item.Gone, item.Group = true, "" }),
		oneItem(func(item *impl.Item) { item.Gone, item.Name, item.Group = true, " ", "" }),
		rosterWith(3, gone("ann@a/x", 2)), rosterWith(3, gone("", 2)), rosterWith(3, gone("ann@a", 0)), rosterWith(3, gone("ann@a", 4)),
	}
	for _, version := range []int64{0, -1, 4, 5, impl.MaxTime, impl.MaxTime + 1, 1<<32 + 2, math.MinInt64, math.MaxInt64} {
		list = append(list, oneItem(func(item *impl.Item) { item.Version = version }))
	}
	for _, text := range append(textsThatAreNoBareAddresses(), long(impl.MaxBytes+1)) {
		list = append(list, oneItem(func(item *impl.Item) { item.Jid = text }), rosterWith(3, impl.Item{Jid: text, Version: 1, Gone: true}))
	}
	for _, text := range append(textsThatAreNoItemNames(), long(impl.MaxBytes+1)) {
		list = append(list, oneItem(func(item *impl.Item) { item.Name = text }), rosterWith(3, contact("ann@a", 1), impl.Item{Jid: "bob@b", Name: text, Version: 2}))
	}
	for _, text := range append(textsThatAreNoGroups(), long(impl.MaxBytes+1)) {
		list = append(list, oneItem(func(item *impl.Item) { item.Group = text }), rosterWith(3, contact("ann@a", 1), impl.Item{Jid: "bob@b", Group: text, Version: 2}))
	}
	return list
}

func shownItem(item impl.Item) string {
	return fmt.Sprintf("{%.70q %.40q %.30q %d %v}", item.Jid, item.Name, item.Group, item.Version, item.Gone)
}

func shownItems(items []impl.Item) string {
	text := fmt.Sprintf("%d items:", len(items))
	for _, item := range items[:min(len(items), impl.MaxItems+1)] {
		text += " " + shownItem(item)
	}
	return text
}

func shownRoster(r impl.Roster) string {
	return fmt.Sprintf("{Version %d, %s}", r.Version, shownItems(r.Items))
}

func sameRoster(a impl.Roster, b impl.Roster) bool {
	return a.Version == b.Version && slices.Equal(a.Items, b.Items)
}

func checkRoster(t *testing.T, what string, got impl.RosterOut, want impl.RosterOut) {
	t.Helper()
	if got.Code != want.Code || got.Item != want.Item || !sameRoster(got.Roster, want.Roster) {
		t.Errorf("%s: %s with %s and code %d, want %s with %s and code %d", what, shownRoster(got.Roster), shownItem(got.Item), got.Code, shownRoster(want.Roster), shownItem(want.Item), want.Code)
	}
	if !impl.RosterRight(got.Roster) {
		t.Errorf("%s: %s is not valid", what, shownRoster(got.Roster))
	}
}

func checkSet(t *testing.T, r impl.Roster, jid string, name string, group string, want impl.RosterOut) impl.RosterOut {
	t.Helper()
	got := impl.RosterSet(r, jid, name, group)
	checkRoster(t, fmt.Sprintf("RosterSet(%s, %.70q, %.40q, %.30q)", shownRoster(r), jid, name, group), got, want)
	return got
}

func checkDrop(t *testing.T, r impl.Roster, jid string, want impl.RosterOut) impl.RosterOut {
	t.Helper()
	got := impl.RosterDrop(r, jid)
	checkRoster(t, fmt.Sprintf("RosterDrop(%s, %.70q)", shownRoster(r), jid), got, want)
	return got
}

func checkItem(t *testing.T, r impl.Roster, jid string, want impl.Item) {
	t.Helper()
	if got := impl.RosterItem(r, jid); got != want {
		t.Errorf("RosterItem(%s, %.70q) = %s, want %s", shownRoster(r), jid, shownItem(got), shownItem(want))
	}
}

func checkItems(t *testing.T, what string, got []impl.Item, want []impl.Item) {
	t.Helper()
	if !slices.Equal(got, want) {
		t.Errorf("%s: %s, want %s", what, shownItems(got), shownItems(want))
	}
}

func checkGroup(t *testing.T, r impl.Roster, group string, want []impl.Item) {
	t.Helper()
	checkItems(t, fmt.Sprintf("RosterGroup(%s, %.30q)", shownRoster(r), group), impl.RosterGroup(r, group), want)
}

func checkSince(t *testing.T, r impl.Roster, version int64, want []impl.Item) {
	t.Helper()
	checkItems(t, fmt.Sprintf("RosterSince(%s, %d)", shownRoster(r), version), impl.RosterSince(r, version), want)
}

func checkFollow(t *testing.T, l []impl.Item, more []impl.Item, want []impl.Item) {
	t.Helper()
	checkItems(t, fmt.Sprintf("RosterFollow(%s, %s)", shownItems(l), shownItems(more)), impl.RosterFollow(l, more), want)
}

// referenceChange returns a valid roster with an item in the place of the one with its Jid, found by going through the list.
func referenceChange(r impl.Roster, item impl.Item) impl.RosterOut {
	item.Version = r.Version + 1
	items := slices.Clone(r.Items)
	at := 0
	for at < len(items) && items[at].Jid < item.Jid {
		at++
	}
	if at < len(items) && items[at].Jid == item.Jid {
		items[at] = item
	} else {
		items = slices.Insert(items, at, item)
	}
	return impl.RosterOut{Roster: rosterWith(item.Version, items...), Item: item}
}

func placeOf(r impl.Roster, jid string) int {
	return slices.IndexFunc(r.Items, func(item impl.Item) bool { return item.Jid == jid })
}

func referenceBare(text string) bool {
	read := referenceRead(text)
	return read.Code == impl.OK && read.Jid.Local != "" && read.Jid.Local+"@"+read.Jid.Domain == text
}

// jidsAround returns the Jids of a roster, and others before, between and behind them.
func jidsAround(r impl.Roster) []string {
	list := []string{"-@0", "0@a", "ann@a", "anna@a", "ann@a.b", "bob@a", "bob@b", "m@m", "zoe@z", long(30) + "@" + long(30)}
	for _, item := range r.Items {
		list = append(list, item.Jid, item.Jid+"a", "a"+item.Jid)
	}
	return slices.DeleteFunc(list, func(text string) bool { return !referenceBare(text) })
}

func TestRosterConstant(t *testing.T) {
	if impl.MaxItems != 12 {
		t.Errorf("MaxItems is %d", impl.MaxItems)
	}
}

func TestExampleOfRosters(t *testing.T) {
	bob := impl.Item{Jid: "bob@b", Name: "Bob", Group: "work", Version: 1}
	ann := impl.Item{Jid: "ann@a", Version: 2}
	first := checkSet(t, impl.Roster{}, "bob@b", "Bob", "work", impl.RosterOut{Roster: rosterWith(1, bob), Item: bob}).Roster
	second := checkSet(t, first, "ann@a", "", "", impl.RosterOut{Roster: rosterWith(2, ann, bob), Item: ann}).Roster
	third := checkDrop(t, second, "bob@b", impl.RosterOut{Roster: rosterWith(3, ann, gone("bob@b", 3)), Item: gone("bob@b", 3)}).Roster
	changes := []impl.Item{ann, gone("bob@b", 3)}
	checkSince(t, third, 1, changes)
	checkFollow(t, first.Items, changes, []impl.Item{ann})
	checkItem(t, second, "bob@b", bob)
	checkItem(t, third, "bob@b", impl.Item{})
	checkItem(t, third, "ann@a", ann)
	checkDrop(t, third, "bob@b", impl.RosterOut{Code: impl.ErrNone})
}

func TestValidRosters(t *testing.T) {
	for _, r := range validRosters() {
		if !impl.RosterRight(r) {
			t.Errorf("%s is not valid", shownRoster(r))
		}
	}
	for _, r := range invalidRosters() {
		if impl.RosterRight(r) {
			t.Errorf("%s is valid", shownRoster(r))
		}
	}
}

func TestNumbersOfItems(t *testing.T) {
	for count := range impl.MaxItems + 5 {
		for _, version := range []int64{int64(count) - 1, int64(count), int64(count) + 1, impl.MaxTime, impl.MaxTime + 1} {
			r := rosterWith(version, itemsOfTests(count)...)
			if got, want := impl.RosterRight(r), count <= impl.MaxItems && version >= int64(count) && version <= impl.MaxTime; got != want {
				t.Errorf("%d items and Version %d: valid is %v", count, version, got)
			}
		}
	}
}

func TestJidsOfItems(t *testing.T) {
	for _, j := range validJids() {
		text := impl.JidText(j)
		r := oneItem(func(item *impl.Item) { item.Jid = text })
		if got, want := impl.RosterRight(r), j.Local != "" && j.Resource == ""; got != want {
			t.Errorf("an item with the Jid %q: valid is %v", text, got)
		}
		if upper := strings.ToUpper(text); upper != text && impl.RosterRight(oneItem(func(item *impl.Item) { item.Jid = upper })) {
			t.Errorf("an item with the Jid %q is valid", upper)
		}
	}
}

func TestNamesOfItems(t *testing.T) {
	for size := range nameLimit + 10 {
		if got := impl.RosterRight(oneItem(func(item *impl.Item) { item.Name = long(size) })); got != (size <= nameLimit) {
			t.Errorf("a Name of %d bytes: valid is %v", size, got)
		}
	}
	for b := range 256 {
		one := string([]byte{byte(b)})
		for _, name := range []string{one, one + "x", "x" + one, long(nameLimit-1) + one} {
			if got := impl.RosterRight(oneItem(func(item *impl.Item) { item.Name = name })); got != (b >= 32 && b <= 126) {
				t.Errorf("the Name %q: valid is %v", name, got)
			}
		}
	}
}

func TestGroupsOfItems(t *testing.T) {
	for size := range 30 {
		if got := impl.RosterRight(oneItem(func(item *impl.Item) { item.Group = long(size) })); got != (size <= 20) {
			t.Errorf("a Group of %d bytes: valid is %v", size, got)
		}
	}
	for b := range 256 {
		for _, group := range []string{string([]byte{byte(b)}), string([]byte{'x', byte(b)})} {
			if got := impl.RosterRight(oneItem(func(item *impl.Item) { item.Group = group })); got != impl.NameRight(group) {
				t.Errorf("the Group %q: valid is %v", group, got)
			}
		}
	}
}

func TestVersionsOfItems(t *testing.T) {
	versions := []int64{-1, 0, 1, 2, 3, 4, impl.MaxTime}
	for _, a := range versions {
		for _, b := range versions {
			for _, c := range versions {
				r := rosterWith(3, contact("ann@a", a), impl.Item{Jid: "bob@b", Version: b}, gone("cat@a", c))
				want := a != b && b != c && a != c && min(a, b, c) >= 1 && max(a, b, c) <= 3
				if got := impl.RosterRight(r); got != want {
					t.Errorf("items with the versions %d, %d, %d in a roster of Version 3: valid is %v", a, b, c, got)
				}
			}
		}
	}
}

func TestSet(t *testing.T) {
	for _, r := range validRosters() {
		for _, jid := range jidsAround(r) {
			for _, name := range []string{"", "A", long(nameLimit)} {
				for _, group := range []string{"", "a", long(20)} {
					want := referenceChange(r, impl.Item{Jid: jid, Name: name, Group: group})
					if r.Version == impl.MaxTime || len(r.Items) == impl.MaxItems && placeOf(r, jid) < 0 {
						want = impl.RosterOut{Code: impl.ErrFull}
					}
					checkSet(t, r, jid, name, group, want)
				}
			}
		}
	}
}

func TestSetOfEveryNameAndGroup(t *testing.T) {
	for _, name := range namesOfTests() {
		for _, group := range groupsOfTests() {
			for _, jid := range []string{"ann@a", "cat@a", "new@a"} {
				checkSet(t, mixedRoster(), jid, name, group, referenceChange(mixedRoster(), impl.Item{Jid: jid, Name: name, Group: group}))
			}
		}
	}
}

// A part of an item that is not valid is reported ahead of a roster that is full.
func TestSetOfInvalidItems(t *testing.T) {
	wrong := impl.RosterOut{Code: impl.ErrForm}
	for _, r := range []impl.Roster{{}, mixedRoster(), fullRoster(), rosterWith(impl.MaxTime), rosterWith(impl.MaxTime, itemsOfTests(impl.MaxItems)...)} {
		for _, jid := range textsThatAreNoBareAddresses() {
			checkSet(t, r, jid, "A", "work", wrong)
		}
		for _, jid := range []string{"ann@a", "new@a", "u000@a", "u002@a"} {
			for _, name := range textsThatAreNoItemNames() {
				checkSet(t, r, jid, name, "work", wrong)
			}
			for _, group := range textsThatAreNoGroups() {
				checkSet(t, r, jid, "A", group, wrong)
			}
		}
	}
}

func TestSetInFullRosters(t *testing.T) {
	full := impl.RosterOut{Code: impl.ErrFull}
	r := fullRoster()
	checkSet(t, r, "new@a", "A", "", full)
	checkSet(t, r, "u000@b", "A", "", full)
	there := checkSet(t, r, "u000@a", "A", "", referenceChange(r, impl.Item{Jid: "u000@a", Name: "A"}))
	removed := checkSet(t, there.Roster, "u002@a", "A", "a", referenceChange(there.Roster, impl.Item{Jid: "u002@a", Name: "A", Group: "a"}))
	if removed.Roster.Version != impl.MaxItems+2 || len(removed.Roster.Items) != impl.MaxItems {
		t.Errorf("a full roster becomes %s", shownRoster(removed.Roster))
	}
	dropped := checkDrop(t, r, "u000@a", referenceChange(r, gone("u000@a", 0)))
	checkSet(t, dropped.Roster, "new@a", "A", "", full)

	last := rosterWith(impl.MaxTime-1, contact("ann@a", 1), gone("bob@b", 2))
	for _, jid := range []string{"ann@a", "bob@b", "new@a"} {
		atEnd := checkSet(t, last, jid, "A", "", referenceChange(last, impl.Item{Jid: jid, Name: "A"})).Roster
		checkSet(t, atEnd, jid, "A", "", full)
		checkSet(t, atEnd, "cat@a", "A", "", full)
		checkDrop(t, atEnd, jid, full)
	}
}

func TestDrop(t *testing.T) {
	for _, r := range validRosters() {
		for _, jid := range append(jidsAround(r), textsThatAreNoBareAddresses()...) {
			want := referenceChange(r, gone(jid, 0))
			if at := placeOf(r, jid); at < 0 || r.Items[at].Gone {
				want = impl.RosterOut{Code: impl.ErrNone}
			} else if r.Version == impl.MaxTime {
				want = impl.RosterOut{Code: impl.ErrFull}
			}
			checkDrop(t, r, jid, want)
		}
	}
	// An item that is missing or gone is reported ahead of the last Version.
	last := rosterWith(impl.MaxTime, contact("ann@a", 1), gone("bob@b", 2))
	checkDrop(t, last, "ann@a", impl.RosterOut{Code: impl.ErrFull})
	checkDrop(t, last, "bob@b", impl.RosterOut{Code: impl.ErrNone})
	checkDrop(t, last, "cat@a", impl.RosterOut{Code: impl.ErrNone})
}

func TestItem(t *testing.T) {
	for _, r := range validRosters() {
		for _, jid := range append(jidsAround(r), append(textsThatAreNoBareAddresses(), long(impl.MaxBytes+1))...) {
			want := impl.Item{}
			if at := placeOf(r, jid); at >= 0 && !r.Items[at].Gone {
				want = r.Items[at]
			}
			checkItem(t, r, jid, want)
		}
	}
}

func TestGroup(t *testing.T) {
	for _, r := range validRosters() {
		for _, group := range append(groupsOfTests(), append(textsThatAreNoGroups(), "home", "wor", "works", "WORK", long(impl.MaxBytes+1))...) {
			var want []impl.Item
			for _, item := range r.Items {
				if item.Group == group && !item.Gone {
					want = append(want, item)
				}
			}
			checkGroup(t, r, group, want)
		}
	}
	mixed := mixedRoster()
	checkGroup(t, mixed, "work", []impl.Item{mixed.Items[0], mixed.Items[4]})
	checkGroup(t, mixed, "home", []impl.Item{mixed.Items[3]})
	checkGroup(t, mixed, "", []impl.Item{mixed.Items[1]})
	checkGroup(t, mixed, "other", nil)
}

func TestSince(t *testing.T) {
	for _, r := range validRosters() {
		for _, version := range []int64{math.MinInt64, -1, 0, 1, 2, 3, 4, 7, 8, r.Version - 1, r.Version, r.Version + 1, impl.MaxTime, impl.MaxTime + 1, math.MaxInt64} {
			var want []impl.Item
			for _, item := range r.Items {
				if item.Version > version {
					want = append(want, item)
				}
			}
			slices.SortFunc(want, func(a, b impl.Item) int { return int(a.Version - b.Version) })
			checkSince(t, r, version, want)
		}
	}
	mixed := mixedRoster()
	checkSince(t, mixed, 0, []impl.Item{mixed.Items[3], mixed.Items[1], mixed.Items[4], mixed.Items[0], mixed.Items[2]})
	checkSince(t, mixed, 4, []impl.Item{mixed.Items[0], mixed.Items[2]})
	checkSince(t, mixed, 8, nil)
}

func TestFollow(t *testing.T) {
	ann, bob, cat := contact("ann@a", 1), contact("bob@b", 2), contact("cat@a", 3)
	other := impl.Item{Jid: "bob@b", Name: "Other", Version: 7}
	cases := []struct {
		l    []impl.Item
		more []impl.Item
		want []impl.Item
	}{
		{nil, nil, nil},
		{[]impl.Item{ann}, nil, []impl.Item{ann}},
		{[]impl.Item{ann, bob}, []impl.Item{}, []impl.Item{ann, bob}},
		{nil, []impl.Item{bob, ann}, []impl.Item{ann, bob}},
		{[]impl.Item{ann, cat}, []impl.Item{bob}, []impl.Item{ann, bob, cat}},
		{[]impl.Item{bob}, []impl.Item{cat, ann}, []impl.Item{ann, bob, cat}},
		{[]impl.Item{ann, bob, cat}, []impl.Item{other}, []impl.Item{ann, other, cat}},
		{[]impl.Item{ann, bob, cat}, []impl.Item{gone("bob@b", 9)}, []impl.Item{ann, cat}},
		{[]impl.Item{ann}, []impl.Item{gone("ann@a", 9)}, nil},
		{[]impl.Item{ann, cat}, []impl.Item{gone("bob@b", 9)}, []impl.Item{ann, cat}},
		{nil, []impl.Item{gone("bob@b", 9)}, nil},
		{[]impl.Item{ann}, []impl.Item{gone("ann@b", 9), gone("an@a", 9), gone("", 9)}, []impl.Item{ann}},
		// One Jid twice: the last change holds.
		{[]impl.Item{ann}, []impl.Item{bob, other}, []impl.Item{ann, other}},
		{[]impl.Item{ann}, []impl.Item{other, bob}, []impl.Item{ann, bob}},
		{[]impl.Item{ann}, []impl.Item{bob, gone("bob@b", 9)}, []impl.Item{ann}},
		{[]impl.Item{ann, bob}, []impl.Item{gone("bob@b", 9), other}, []impl.Item{ann, other}},
		{[]impl.Item{ann, bob}, []impl.Item{gone("bob@b", 8), gone("bob@b", 9)}, []impl.Item{ann}},
		// The items need not be those of a valid roster.
		{[]impl.Item{{}, {Jid: "A b", Name: "\n", Group: "9", Version: -1}}, []impl.Item{{Jid: "A", Version: 7}, {Name: long(99)}}, []impl.Item{{Name: long(99)}, {Jid: "A", Version: 7}, {Jid: "A b", Name: "\n", Group: "9", Version: -1}}},
		{[]impl.Item{ann, bob}, []impl.Item{{Jid: "ann@a", Name: "x", Group: "y", Version: 1, Gone: true}}, []impl.Item{bob}},
		{[]impl.Item{contact("ann@a", 5), contact("bob@b", 5)}, []impl.Item{contact("cat@a", 5)}, []impl.Item{contact("ann@a", 5), contact("bob@b", 5), contact("cat@a", 5)}},
	}
	for _, c := range cases {
		checkFollow(t, c.l, c.more, c.want)
	}
}

func TestFollowOfInvalidLists(t *testing.T) {
	ann, bob, cat := contact("ann@a", 1), contact("bob@b", 2), contact("cat@a", 3)
	lists := [][]impl.Item{
		{gone("ann@a", 1)}, {ann, gone("bob@b", 2)}, {gone("ann@a", 1), bob}, {ann, gone("bob@b", 2), cat},
		{ann, ann}, {ann, contact("ann@a", 7)}, {bob, ann}, {ann, cat, bob}, {bob, cat, ann}, {ann, bob, bob},
		{contact("aa@a", 1), contact("a@b", 2)}, {{}, {}},
	}
	for _, l := range lists {
		for _, more := range [][]impl.Item{nil, {cat}, {gone("ann@a", 9)}, {gone("ann@a", 9), gone("bob@b", 9)}, {ann, bob, cat}} {
			checkFollow(t, l, more, nil)
		}
	}
}

func TestSizesOfFollow(t *testing.T) {
	var items []impl.Item
	for i := range 2*impl.MaxList + 2 {
		items = append(items, impl.Item{Jid: fmt.Sprintf("u%04d@a", i), Version: int64(i)})
	}
	first, second := items[:impl.MaxList], items[impl.MaxList:2*impl.MaxList]
	checkFollow(t, first, second, items[:2*impl.MaxList])
	checkFollow(t, second, first, items[:2*impl.MaxList])
	checkFollow(t, nil, first, first)
	for _, size := range []int{impl.MaxList + 1, impl.MaxList + 2, 2 * impl.MaxList} {
		checkFollow(t, items[:size], nil, nil)
		checkFollow(t, items[:size], first, nil)
		checkFollow(t, nil, items[:size], nil)
		checkFollow(t, first, items[:size], nil)
	}
}

func referenceBytes(r impl.Roster) string {
	text := impl.PutNum(r.Version) + impl.PutNum(int64(len(r.Items)))
	for _, item := range r.Items {
		text += impl.PutText(item.Jid) + impl.PutText(item.Name) + impl.PutText(item.Group) + impl.PutNum(item.Version)
		if item.Gone {
			text += "\x02"
		} else {
			text += "\x00"
		}
	}
	return text
}

func checkRosterRead(t *testing.T, text string, want impl.RosterOut) {
	t.Helper()
	checkRoster(t, fmt.Sprintf("RosterRead(%.120q)", text), impl.RosterRead(text), want)
}

func TestRosterBytes(t *testing.T) {
	if got, want := impl.RosterBytes(rosterWith(64, impl.Item{Jid: "a@b", Name: "A", Version: 3}, gone("b@b", 64))), "\x80\x01\x04\x06a@b\x02A\x00\x06\x00\x06b@b\x00\x00\x80\x01\x02"; got != want {
		t.Errorf("the encoding is %q, want %q", got, want)
	}
	if got := impl.RosterBytes(impl.Roster{}); got != "\x00\x00" {
		t.Errorf("the encoding of the zero roster is %q", got)
	}
	for _, r := range validRosters() {
		text := impl.RosterBytes(r)
		if text != referenceBytes(r) {
			t.Errorf("the encoding of %s is %q", shownRoster(r), text)
		}
		checkRosterRead(t, text, impl.RosterOut{Roster: r})
	}
}

func TestRosterReadOfOtherTexts(t *testing.T) {
	wrong := impl.RosterOut{Code: impl.ErrSyntax}
	for _, r := range validRosters() {
		text := impl.RosterBytes(r)
		for at := range len(text) {
			checkRosterRead(t, text[:at], wrong)
		}
		for _, more := range []string{"\x00", "\x01", "\x80", "x", text} {
			checkRosterRead(t, text+more, wrong)
		}
		checkRosterRead(t, "\x00"+text, wrong)
	}
	for _, r := range invalidRosters() {
		if text := referenceBytes(r); len(text) <= impl.MaxBytes {
			checkRosterRead(t, text, wrong)
		}
	}
	for _, text := range []string{"", "x", "\x00", "\x80", "\x80\x00\x00", "\x00\x80\x00", "\x00\x01", "\x00\x03", "\x02\xfe\xff\xff\xff\xff\xff\xff\xff\xff\x01", "\x02\xff\xff\xff\xff\xff\xff\xff\xff\xff\x01", long(impl.MaxBytes), strings.Repeat("\x00", impl.MaxBytes)} {
		checkRosterRead(t, text, wrong)
	}
	tooLong := impl.RosterOut{Code: impl.ErrSize}
	checkRosterRead(t, long(impl.MaxBytes+1), tooLong)
	checkRosterRead(t, impl.RosterBytes(mixedRoster())+long(impl.MaxBytes), tooLong)
}

func TestRosterReadOfGone(t *testing.T) {
	before := impl.PutNum(3) + impl.PutNum(1) + impl.PutText("ann@a") + impl.PutText("") + impl.PutText("") + impl.PutNum(2)
	checkRosterRead(t, before+impl.PutNum(0), impl.RosterOut{Roster: rosterWith(3, impl.Item{Jid: "ann@a", Version: 2})})
	checkRosterRead(t, before+impl.PutNum(1), impl.RosterOut{Roster: rosterWith(3, gone("ann@a", 2))})
	for _, n := range []int64{2, 3, -1, 256, 257, 1 << 32, 1<<32 + 1, math.MinInt64, math.MaxInt64} {
		checkRosterRead(t, before+impl.PutNum(n), impl.RosterOut{Code: impl.ErrSyntax})
	}
	checkRosterRead(t, before+"\x80\x00", impl.RosterOut{Code: impl.ErrSyntax})
	checkRosterRead(t, before+"\x82\x00", impl.RosterOut{Code: impl.ErrSyntax})
	checkRosterRead(t, impl.PutNum(3)+impl.PutNum(2)+before[2:]+impl.PutNum(1), impl.RosterOut{Code: impl.ErrSyntax})
	checkRosterRead(t, impl.PutNum(3)+impl.PutNum(0)+before[2:]+impl.PutNum(1), impl.RosterOut{Code: impl.ErrSyntax})
}

// A changed text is either rejected or the encoding of what is read from it.
func TestRosterReadOfChangedTexts(t *testing.T) {
	for _, r := range []impl.Roster{{}, mixedRoster(), rosterWith(64, impl.Item{Jid: "a@b", Name: "A", Version: 3}, gone("b@b", 64))} {
		text := impl.RosterBytes(r)
		for at := range len(text) {
			for b := range 256 {
				changed := text[:at] + string([]byte{byte(b)}) + text[at+1:]
				got := impl.RosterRead(changed)
				if got.Code == impl.OK && referenceBytes(got.Roster) != changed || got.Code != impl.OK && (got.Code != impl.ErrSyntax || !sameRoster(got.Roster, impl.Roster{})) || got.Item != (impl.Item{}) {
					t.Errorf("RosterRead(%q): %s with code %d", changed, shownRoster(got.Roster), got.Code)
				}
			}
		}
	}
}

// An invalid roster is reported ahead of every other error but that of a size.
func TestInvalidRostersAreRejected(t *testing.T) {
	wrong := impl.RosterOut{Code: impl.ErrForm}
	full := fullRoster()
	full.Items[3].Name = "\n"
	last := rosterWith(impl.MaxTime, contact("ann@a", 2), gone("bob@b", 2))
	for _, r := range append(invalidRosters(), full, last) {
		for _, jid := range []string{"ann@a", "bob@b", "new@a", "u000@a", "u002@a", "", "a", "ann@a/x", "ANN@a"} {
			checkSet(t, r, jid, "A", "work", wrong)
			checkSet(t, r, jid, "\n", "work", wrong)
			checkSet(t, r, jid, "A", "9", wrong)
			checkDrop(t, r, jid, wrong)
			checkItem(t, r, jid, impl.Item{})
		}
		for _, group := range []string{"", "work", "home", "9"} {
			checkGroup(t, r, group, nil)
		}
		for _, version := range []int64{-1, 0, 1, 2, impl.MaxTime, math.MinInt64} {
			checkSince(t, r, version, nil)
		}
		if text := impl.RosterBytes(r); text != "" {
			t.Errorf("the encoding of %s is %q", shownRoster(r), text)
		}
	}
}

func TestSizesOfRosterArguments(t *testing.T) {
	tooLong := impl.RosterOut{Code: impl.ErrSize}
	big := long(impl.MaxBytes + 1)
	for _, r := range []impl.Roster{{}, mixedRoster(), fullRoster(), rosterWith(impl.MaxTime), rosterWith(-1), rosterWith(3, impl.Item{})} {
		checkSet(t, r, big, "", "", tooLong)
		checkSet(t, r, "ann@a", big, "", tooLong)
		checkSet(t, r, "ann@a", "", big, tooLong)
		checkSet(t, r, "", "", big, tooLong)
		checkSet(t, r, "", big, "9", tooLong)
		checkSet(t, r, big, "\n", "9", tooLong)
		checkDrop(t, r, big, tooLong)
		checkItem(t, r, big, impl.Item{})
		checkGroup(t, r, big, nil)
	}
}

// rosterStep sets the item of a Jid, or drops it if set is false.
type rosterStep struct {
	set   bool
	jid   string
	name  string
	group string
}

func (step rosterStep) applied(r impl.Roster) impl.RosterOut {
	if step.set {
		return impl.RosterSet(r, step.jid, step.name, step.group)
	}
	return impl.RosterDrop(r, step.jid)
}

func randomStep(random *rand.Rand) rosterStep {
	jids := []string{"ann@a", "ann@b", "bob@a", "bob@b", "cat@a", "dan@a", "eve@a", "eve@b", "fay@a", "gus@a", "hal@a", "ida@a", "jim@a", "kay@a"}
	return rosterStep{set: random.Intn(3) > 0, jid: jids[random.Intn(len(jids))], name: namesOfTests()[random.Intn(4)], group: groupsOfTests()[random.Intn(4)]}
}

// checkStep compares a roster before and after a step, by RosterItem alone.
func checkStep(t *testing.T, before impl.Roster, step rosterStep, out impl.RosterOut) {
	t.Helper()
	want := impl.Item{}
	if step.set {
		want = impl.Item{Jid: step.jid, Name: step.name, Group: step.group, Version: before.Version + 1}
	}
	checkItem(t, out.Roster, step.jid, want)
	if out.Item.Jid != step.jid || out.Item.Gone == step.set || out.Item.Version != before.Version+1 || out.Roster.Version != before.Version+1 {
		t.Errorf("%+v: the item %s in a roster of Version %d", step, shownItem(out.Item), out.Roster.Version)
	}
	for _, item := range append(slices.Clone(before.Items), out.Roster.Items...) {
		if item.Jid != step.jid {
			checkItem(t, out.Roster, item.Jid, impl.RosterItem(before, item.Jid))
		}
	}
}

// Promise 13, with random steps until the roster is full and beyond.
func TestStepsChangeOneItem(t *testing.T) {
	random := rand.New(rand.NewSource(7))
	for range 100 {
		r := impl.Roster{Version: random.Int63n(100)}
		for range 80 {
			step := randomStep(random)
			out := step.applied(r)
			there := impl.RosterItem(r, step.jid) != impl.Item{}
			switch {
			case !step.set && !there:
				checkRoster(t, fmt.Sprintf("%+v", step), out, impl.RosterOut{Code: impl.ErrNone})
			case step.set && len(r.Items) == impl.MaxItems && placeOf(r, step.jid) < 0:
				checkRoster(t, fmt.Sprintf("%+v", step), out, impl.RosterOut{Code: impl.ErrFull})
			case out.Code != impl.OK:
				t.Fatalf("%+v on %s: code %d", step, shownRoster(r), out.Code)
			default:
				checkStep(t, r, step, out)
				r = out.Roster
			}
		}
	}
}

// contents returns the items of a roster that are not gone.
func contents(r impl.Roster) []impl.Item {
	return slices.DeleteFunc(slices.Clone(r.Items), func(item impl.Item) bool { return item.Gone })
}

// Promise 14: a client may follow every change, or ask at any version for all changes since then.
func TestClientsThatFollowHaveTheContents(t *testing.T) {
	random := rand.New(rand.NewSource(14))
	for range 60 {
		states := []impl.Roster{{}}
		var client []impl.Item
		for range 60 {
			out := randomStep(random).applied(states[len(states)-1])
			if out.Code != impl.OK {
				continue
			}
			client = impl.RosterFollow(client, []impl.Item{out.Item})
			checkItems(t, "a client that follows every change", client, contents(out.Roster))
			for _, earlier := range states {
				checkFollow(t, contents(earlier), impl.RosterSince(out.Roster, earlier.Version), contents(out.Roster))
			}
			states = append(states, out.Roster)
		}
	}
}

// Promise 15.
func TestGroupsAreAllItems(t *testing.T) {
	rosters := validRosters()
	random := rand.New(rand.NewSource(15))
	r := impl.Roster{}
	for range 500 {
		if out := randomStep(random).applied(r); out.Code == impl.OK {
			r = out.Roster
			rosters = append(rosters, r)
		}
	}
	for _, r := range rosters {
		groups := []string{""}
		for _, item := range r.Items {
			groups = append(groups, item.Group)
		}
		slices.Sort(groups)
		var all []impl.Item
		for _, group := range slices.Compact(groups) {
			all = append(all, impl.RosterGroup(r, group)...)
		}
		slices.SortFunc(all, func(a, b impl.Item) int { return strings.Compare(a.Jid, b.Jid) })
		checkItems(t, "the groups of "+shownRoster(r), all, contents(r))
	}
}

func sharesItem(a impl.Item, b impl.Item) bool {
	return sharesText(a.Jid, b.Jid) || sharesText(a.Name, b.Name) || sharesText(a.Group, b.Group)
}

func clonedItem(item impl.Item) impl.Item {
	return impl.Item{Jid: strings.Clone(item.Jid), Name: strings.Clone(item.Name), Group: strings.Clone(item.Group), Version: item.Version, Gone: item.Gone}
}

// checkNotShared also overwrites the items, so that a change to the list that they came from is seen.
func checkNotShared(t *testing.T, what string, got []impl.Item, others ...impl.Item) {
	t.Helper()
	for at, item := range got {
		for _, other := range others {
			if sharesItem(item, other) {
				t.Errorf("%s: a text of %s is shared", what, shownItem(item))
			}
		}
		got[at] = impl.Item{}
	}
}

func TestRostersAreNotShared(t *testing.T) {
	spare := make([]impl.Item, 0, 20)
	for _, item := range mixedRoster().Items {
		spare = append(spare, clonedItem(item))
	}
	r := impl.Roster{Version: 9, Items: spare}
	before := slices.Clone(spare[:cap(spare)])
	given := clonedItem(impl.Item{Jid: "ann@new.example", Name: "A name", Group: "a_group"})
	others := append(slices.Clone(spare), given)

	for _, out := range []impl.RosterOut{impl.RosterSet(r, given.Jid, given.Name, given.Group), impl.RosterSet(r, spare[0].Jid, given.Name, given.Group), impl.RosterDrop(r, spare[0].Jid)} {
		if out.Code != impl.OK {
			t.Fatalf("code %d", out.Code)
		}
		checkNotShared(t, "the Roster", out.Roster.Items, append(slices.Clone(others), out.Item)...)
		checkNotShared(t, "the Item", []impl.Item{out.Item}, others...)
	}
	checkNotShared(t, "RosterItem", []impl.Item{impl.RosterItem(r, spare[0].Jid)}, others...)
	checkNotShared(t, "RosterGroup", impl.RosterGroup(r, "work"), others...)
	checkNotShared(t, "RosterSince", impl.RosterSince(r, 0), others...)
	kept := contents(r)
	keptBefore := slices.Clone(kept)
	more := []impl.Item{given, gone(strings.Clone("dan@a"), 10)}
	checkNotShared(t, "RosterFollow", impl.RosterFollow(kept, more), others...)
	checkItems(t, "the list behind RosterFollow", kept, keptBefore)
	checkItems(t, "the changes behind RosterFollow", more, []impl.Item{given, gone("dan@a", 10)})
	checkItems(t, "the items behind all calls", spare[:cap(spare)], before)
}

// The order of a map differs from call to call, and is not to be seen.
func TestRostersAreTheSameEachTime(t *testing.T) {
	r := fullRoster()
	for range 50 {
		checkSet(t, r, "u004@a", "A", "", referenceChange(r, impl.Item{Jid: "u004@a", Name: "A"}))
		since := impl.RosterSince(r, 0)
		if !slices.IsSortedFunc(since, func(a, b impl.Item) int { return int(a.Version - b.Version) }) || len(since) != impl.MaxItems {
			t.Fatalf("RosterSince: %s", shownItems(since))
		}
	}
}
