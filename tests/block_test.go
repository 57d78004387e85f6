package tests

import (
	"fmt"
	"math/rand"
	"slices"
	"strings"
	"testing"

	"loop.example/g00387/impl"
)

func blocks(list ...string) []string {
	return list
}

// blocksOfTests returns so many addresses of users of one domain, in order.
func blocksOfTests(count int) []string {
	var list []string
	for i := range count {
		list = append(list, fmt.Sprintf("u%03d@b", i))
	}
	return list
}

func fullBlocks() []string {
	return blocksOfTests(impl.MaxBlocks)
}

// mixedBlocks has an element of every sort, and room ahead of, between and behind them.
func mixedBlocks() []string {
	return blocks("a", "b/x", "bob@b", "eve@c/home", "zoe@z")
}

// sendersOfTests returns addresses of every sort, of one user, another user of that domain, and another domain, in order.
func sendersOfTests() []string {
	return blocks("b", "b/x", "b/y", "bob@b", "bob@b/x", "bob@b/y", "bob@c", "bob@c/x", "c", "c/x", "dan@b", "dan@b/x")
}

func validBlocks() [][]string {
	list := [][]string{
		nil, {}, blocksOfTests(1), blocksOfTests(2), blocksOfTests(impl.MaxBlocks - 1), fullBlocks(), mixedBlocks(),
		blocks("a"), blocks("a@a"), blocks("a/a"), blocks("a@a/a"), blocks(longestAddress()), blocks("a/A"),
		// The order is that of the bytes of the texts, and not that of addresses, of letters or of sizes.
		blocks("a", "a-b", "a.b", "a/b", "a@b", "aa", "b"), blocks("ann@z", "bob@a"), blocks("aa", "b"), blocks("a/B", "a/a"),
		blocks(long(29), long(30)), blocks("-@a", ".@a", "0@a", "_@a", "a"), blocks("a/x", "a@x"), blocks("bob@b", "bob@b/x", "bob@b/y"),
	}
	for _, first := range sendersOfTests() {
		list = append(list, blocks(first), blocks("0", first, "z"))
	}
	return append(list, sendersOfTests()[:impl.MaxBlocks], sendersOfTests()[4:])
}

// invalidBlocks returns block lists that each have one fault, at different places.
func invalidBlocks() [][]string {
	list := [][]string{
		blocksOfTests(impl.MaxBlocks + 1), blocksOfTests(impl.MaxBlocks + 2), blocksOfTests(impl.MaxList),
		blocks("a", "a"), blocks("a", "bob@b", "bob@b", "c"), blocks("a", "a", "b"), blocks("a", "b", "b"), blocks("a", "b", "a"),
		blocks("b", "a"), blocks("b", "a", "c"), blocks("a", "c", "b"), blocks("c", "b", "a"), blocks("aa", "a"), blocks("bob@a", "ann@z"),
		blocks("a/b", "a.b"), blocks("a@b", "a/b"), blocks("bob@b/x", "bob@b"), blocks(long(30), long(29)), blocks("a", "_@a"),
	}
	for at := range impl.MaxBlocks - 1 {
		twice, exchanged := fullBlocks(), fullBlocks()
		twice[at+1] = twice[at]
		exchanged[at], exchanged[at+1] = exchanged[at+1], exchanged[at]
		list = append(list, twice, exchanged)
	}
	for _, text := range append(textsThatAreNoAddresses(), "", "\x00", "~", "a@b@c", "ANN@A/home", "ann@A/home", "Bob@b", "B") {
		list = append(list, blocks(text), sorted("a", text), sorted(text, "zoe@z"), sorted("a", "bob@b", text, "zoe@z"))
	}
	return list
}

// sorted returns a list in order, so that nothing but its elements can be wrong.
func sorted(list ...string) []string {
	slices.Sort(list)
	return list
}

// addressesNear returns the elements of a block list, and other addresses ahead of, between and behind them.
func addressesNear(l []string) []string {
	list := append(sendersOfTests(), "0", "_@a", "a", "ann@a", "ann@a/home", "m", "zoe@z", "zoe@z/z", "zz", "u003@b/x", longestAddress())
	for _, jid := range l {
		list = append(list, jid)
		if !strings.Contains(jid, "/") {
			list = append(list, jid+"/x", jid+"a", jid+".b")
		}
		if !strings.Contains(jid, "@") {
			list = append(list, "ann@"+jid)
		}
	}
	list = slices.DeleteFunc(list, func(jid string) bool { return !isAddressOfTests(jid) })
	slices.Sort(list)
	return slices.Compact(list)
}

func isAddressOfTests(text string) bool {
	return text != "" && referenceAddress(text)
}

func withinLimit(texts []string) []string {
	return slices.DeleteFunc(texts, func(text string) bool { return len(text) > impl.MaxBytes })
}

func noAddressesWithinLimit() []string {
	return append(withinLimit(textsThatAreNoAddresses()), "")
}

func shownBlocks(l []string) string {
	return fmt.Sprintf("%d elements: %.40q", len(l), l[:min(len(l), impl.MaxBlocks+1)])
}

func noBlocks(code int64) impl.BlocksOut {
	return impl.BlocksOut{Code: code}
}

func checkBlocksRight(t *testing.T, l []string, want bool) {
	t.Helper()
	if got := impl.BlocksRight(l); got != want {
		t.Errorf("BlocksRight(%s): got %t, want %t", shownBlocks(l), got, want)
	}
}

// checkBlocks also tells when the list that the call was given is not what it was before.
func checkBlocks(t *testing.T, what string, l []string, call func() impl.BlocksOut, want impl.BlocksOut) []string {
	t.Helper()
	before := slices.Clone(l)
	got := call()
	if got.Code != want.Code || !slices.Equal(got.Blocks, want.Blocks) {
		t.Errorf("%s of %s: got %s with code %d, want %s with code %d", what, shownBlocks(l), shownBlocks(got.Blocks), got.Code, shownBlocks(want.Blocks), want.Code)
	}
	if !slices.Equal(l, before) {
		t.Errorf("%s of %s has changed it to %s", what, shownBlocks(before), shownBlocks(l))
	}
	checkBlocksRight(t, got.Blocks, true)
	return got.Blocks
}

func checkAdd(t *testing.T, l []string, jid string, want impl.BlocksOut) []string {
	t.Helper()
	return checkBlocks(t, fmt.Sprintf("BlockAdd %.100q", jid), l, func() impl.BlocksOut { return impl.BlockAdd(l, jid) }, want)
}

func checkDel(t *testing.T, l []string, jid string, want impl.BlocksOut) []string {
	t.Helper()
	return checkBlocks(t, fmt.Sprintf("BlockDel %.100q", jid), l, func() impl.BlocksOut { return impl.BlockDel(l, jid) }, want)
}

func checkBlocked(t *testing.T, l []string, jid string, want bool) {
	t.Helper()
	before := slices.Clone(l)
	if got := impl.Blocked(l, jid); got != want {
		t.Errorf("Blocked(%s, %.100q): got %t, want %t", shownBlocks(l), jid, got, want)
	}
	if !slices.Equal(l, before) {
		t.Errorf("Blocked has changed %s to %s", shownBlocks(before), shownBlocks(l))
	}
}

func checkHeard(t *testing.T, l []string, stanzas []impl.Stanza, want []impl.Stanza) []impl.Stanza {
	t.Helper()
	blocksBefore, stanzasBefore := slices.Clone(l), slices.Clone(stanzas)
	got := impl.Heard(l, stanzas)
	if !slices.Equal(got, want) {
		t.Errorf("Heard(%s) of %s:\ngot  %s\nwant %s", shownBlocks(l), shownStanzas(stanzas), shownStanzas(got), shownStanzas(want))
	}
	if !slices.Equal(l, blocksBefore) || !slices.Equal(stanzas, stanzasBefore) {
		t.Errorf("Heard has changed %s or %s", shownBlocks(blocksBefore), shownStanzas(stanzasBefore))
	}
	return got
}

// referenceAdd works with a set, in no order.
func referenceAdd(l []string, jid string) impl.BlocksOut {
	set := map[string]bool{jid: true}
	for _, other := range l {
		if other == jid {
			return noBlocks(impl.ErrThere)
		}
		set[other] = true
	}
	if !isAddressOfTests(jid) {
		return noBlocks(impl.ErrForm)
	}
	if len(set) > impl.MaxBlocks {
		return noBlocks(impl.ErrFull)
	}
	var list []string
	for other := range set {
		list = append(list, other)
	}
	return impl.BlocksOut{Blocks: sorted(list...)}
}

func referenceDel(l []string, jid string) impl.BlocksOut {
	var list []string
	for _, other := range l {
		if other != jid {
			list = append(list, other)
		}
	}
	if len(list) == len(l) {
		return noBlocks(impl.ErrNone)
	}
	return impl.BlocksOut{Blocks: list}
}

// partsOfAddress takes an address apart: what is between the marks.
func partsOfAddress(text string) [3]string {
	local, resource := referenceTo(text)
	domain := strings.TrimPrefix(strings.TrimSuffix(text, "/"+resource), local+"@")
	return [3]string{local, domain, resource}
}

// referenceBlocked asks of every part of every element of a valid list whether it speaks against it.
func referenceBlocked(l []string, jid string) bool {
	sender := partsOfAddress(jid)
	return isAddressOfTests(jid) && slices.ContainsFunc(l, func(element string) bool {
		for i, part := range partsOfAddress(element) {
			if part != "" && part != sender[i] {
				return false
			}
		}
		return true
	})
}

func referenceHeard(l []string, stanzas []impl.Stanza) []impl.Stanza {
	return slices.DeleteFunc(slices.Clone(stanzas), func(s impl.Stanza) bool {
		return impl.StanzaRight(s) && referenceBlocked(l, s.From)
	})
}

func stanzaFrom(from string) impl.Stanza {
	return impl.Stanza{Kind: "message", Type: "chat", From: from, To: "ann@a", Id: 7, Body: "hello"}
}

func stanzasFrom(senders ...string) []impl.Stanza {
	var list []impl.Stanza
	for i, from := range senders {
		s := stanzaFrom(from)
		s.Id = int64(i)
		list = append(list, s)
	}
	return list
}

// eachOrder calls do with the elements of a list in every order.
func eachOrder(list []string, do func(list []string)) {
	var place func(at int)
	place = func(at int) {
		if at == len(list) {
			do(slices.Clone(list))
		}
		for other := at; other < len(list); other++ {
			list[at], list[other] = list[other], list[at]
			place(at + 1)
			list[at], list[other] = list[other], list[at]
		}
	}
	place(0)
}

func TestBlockConstant(t *testing.T) {
	if impl.MaxBlocks != 8 {
		t.Errorf("MaxBlocks is %d", impl.MaxBlocks)
	}
}

func TestExamplesOfBlocks(t *testing.T) {
	l := checkAdd(t, nil, "bob@b", impl.BlocksOut{Blocks: blocks("bob@b")})
	l = checkAdd(t, l, "a", impl.BlocksOut{Blocks: blocks("a", "bob@b")})
	checkBlocked(t, l, "bob@b/x", true)
	checkBlocked(t, l, "ann@a", true)
	checkBlocked(t, l, "c@c", false)
	checkAdd(t, l, "A", noBlocks(impl.ErrForm))
	stanzas := stanzasFrom("bob@b/x", "c@c", "ann@a")
	checkHeard(t, l, stanzas, stanzas[1:2])
}

func TestValidBlocks(t *testing.T) {
	for _, l := range validBlocks() {
		checkBlocksRight(t, l, true)
	}
	for _, l := range invalidBlocks() {
		checkBlocksRight(t, l, false)
	}
}

func TestNumbersOfBlocks(t *testing.T) {
	for count := range 2 * impl.MaxBlocks {
		checkBlocksRight(t, blocksOfTests(count), count <= impl.MaxBlocks)
	}
	checkBlocksRight(t, blocksOfTests(impl.MaxList), false)
	checkBlocksRight(t, blocksOfTests(impl.MaxList+1), false)
	checkBlocksRight(t, make([]string, impl.MaxList+1), false)
}

func TestElementsOfBlocks(t *testing.T) {
	check := func(text string) {
		t.Helper()
		want := isAddressOfTests(text)
		checkBlocksRight(t, blocks(text), want)
		if text != "a" {
			checkBlocksRight(t, sorted("a", text), want)
		}
		if want {
			checkAdd(t, nil, text, impl.BlocksOut{Blocks: blocks(text)})
			checkBlocked(t, blocks(text), text, true)
		} else {
			checkAdd(t, nil, text, noBlocks(impl.ErrForm))
			checkBlocked(t, blocks(text), text, false)
		}
		checkBlocked(t, blocks("a"), text, want && partsOfAddress(text)[1] == "a")
	}
	for size := range 40 {
		part := long(size)
		for _, text := range []string{part, part + "@a", "a/" + part, "ann@" + part, part + "@" + part + "/" + part} {
			check(text)
		}
	}
	for _, j := range validJids() {
		check(impl.JidText(j))
	}
	for _, text := range noAddressesWithinLimit() {
		check(text)
	}
	const text = "ann@a.b/Home"
	for b := range 256 {
		one := string([]byte{byte(b)})
		check(one)
		for at := range len(text) {
			check(text[:at] + one + text[at+1:])
			check(text[:at] + one + text[at:])
		}
	}
}

func TestOrderOfBlocks(t *testing.T) {
	list := blocks("-@a", "a", "a.b", "a/B", "a/b", "a@b", "aa", "b")
	for i, first := range list {
		for j, second := range list {
			checkBlocksRight(t, blocks(first, second), i < j)
			for k, third := range list {
				checkBlocksRight(t, blocks(first, second, third), i < j && j < k)
			}
		}
	}
}

func TestBlockAdd(t *testing.T) {
	l := blocks("b", "d", "f")
	checkAdd(t, nil, "c", impl.BlocksOut{Blocks: blocks("c")})
	checkAdd(t, l, "a", impl.BlocksOut{Blocks: blocks("a", "b", "d", "f")})
	checkAdd(t, l, "c", impl.BlocksOut{Blocks: blocks("b", "c", "d", "f")})
	checkAdd(t, l, "e", impl.BlocksOut{Blocks: blocks("b", "d", "e", "f")})
	checkAdd(t, l, "g", impl.BlocksOut{Blocks: blocks("b", "d", "f", "g")})
	for _, jid := range l {
		checkAdd(t, l, jid, noBlocks(impl.ErrThere))
	}
	// An address that is blocked without being in the list can be added.
	checkAdd(t, l, "bob@b", impl.BlocksOut{Blocks: blocks("b", "bob@b", "d", "f")})
	checkAdd(t, l, "b/x", impl.BlocksOut{Blocks: blocks("b", "b/x", "d", "f")})
	checkAdd(t, blocks("bob@b"), "b", impl.BlocksOut{Blocks: blocks("b", "bob@b")})
	for _, l := range validBlocks() {
		for _, jid := range append(addressesNear(l), noAddressesWithinLimit()...) {
			checkAdd(t, l, jid, referenceAdd(l, jid))
		}
	}
}

func TestAddToFullBlocks(t *testing.T) {
	full := fullBlocks()
	for _, jid := range full {
		checkAdd(t, full, jid, noBlocks(impl.ErrThere))
	}
	for _, jid := range []string{"a", "u000@b/x", "u003@b.c", "v@b", "b", longestAddress()} {
		checkAdd(t, full, jid, noBlocks(impl.ErrFull))
		checkAdd(t, full[:impl.MaxBlocks-1], jid, impl.BlocksOut{Blocks: sorted(append(blocksOfTests(impl.MaxBlocks-1), jid)...)})
	}
	for _, text := range append(noAddressesWithinLimit(), "U003@b", "u003@B") {
		checkAdd(t, full, text, noBlocks(impl.ErrForm))
	}
	var l []string
	for i := range impl.MaxBlocks {
		l = checkAdd(t, l, full[i], impl.BlocksOut{Blocks: full[:i+1]})
	}
	l = nil
	for i := impl.MaxBlocks - 1; i >= 0; i-- {
		l = checkAdd(t, l, full[i], impl.BlocksOut{Blocks: full[i:]})
	}
	checkAdd(t, l, "a", noBlocks(impl.ErrFull))
}

func TestBlockDel(t *testing.T) {
	l := blocks("b", "d", "f")
	checkDel(t, l, "b", impl.BlocksOut{Blocks: blocks("d", "f")})
	checkDel(t, l, "d", impl.BlocksOut{Blocks: blocks("b", "f")})
	checkDel(t, l, "f", impl.BlocksOut{Blocks: blocks("b", "d")})
	checkDel(t, blocks("b"), "b", impl.BlocksOut{})
	checkDel(t, nil, "b", noBlocks(impl.ErrNone))
	// What is blocked by an element is not that element.
	for _, jid := range []string{"a", "c", "g", "bob@b", "b/x", "bb", "", "B", "D", "@b", "b/"} {
		checkDel(t, l, jid, noBlocks(impl.ErrNone))
	}
	for _, l := range append(validBlocks(), fullBlocks()) {
		for _, jid := range append(addressesNear(l), "", "A", "BOB@b", "a b", long(impl.MaxBytes)) {
			checkDel(t, l, jid, referenceDel(l, jid))
		}
	}
}

// Promise 25, for every sort of element against every sort of address.
func TestElementsBlockAddresses(t *testing.T) {
	for _, c := range []struct {
		element string
		blocked []string
	}{
		{"b", blocks("b", "b/x", "b/y", "bob@b", "bob@b/x", "bob@b/y", "dan@b", "dan@b/x")},
		{"b/x", blocks("b/x", "bob@b/x", "dan@b/x")},
		{"b/y", blocks("b/y", "bob@b/y")},
		{"bob@b", blocks("bob@b", "bob@b/x", "bob@b/y")},
		{"bob@b/x", blocks("bob@b/x")},
		{"bob@c", blocks("bob@c", "bob@c/x")},
		{"c", blocks("bob@c", "bob@c/x", "c", "c/x")},
		{"dan@b", blocks("dan@b", "dan@b/x")},
		{"bob@b/X", nil}, {"bo@b", nil}, {"bobb@b", nil}, {"bob@b.c", nil}, {"a", nil}, {"bb", nil}, {"b.c", nil}, {"a.b", nil}, {"b@b", nil}, {"c@b", nil}, {"x", nil}, {"bob", nil},
	} {
		for _, jid := range sendersOfTests() {
			want := slices.Contains(c.blocked, jid)
			checkBlocked(t, blocks(c.element), jid, want)
			checkBlocked(t, sorted("0", c.element, "z"), jid, want)
			checkBlocked(t, sorted("0", "1", "a@a", c.element), jid, want)
			checkBlocked(t, sorted(c.element, "x@y", "z"), jid, want)
			checkHeard(t, blocks(c.element), stanzasFrom(jid), referenceHeard(blocks(c.element), stanzasFrom(jid)))
		}
	}
}

func TestBlockedAgreesWithTheReference(t *testing.T) {
	for _, l := range validBlocks() {
		for _, jid := range append(addressesNear(l), textsThatAreNoAddresses()...) {
			checkBlocked(t, l, jid, referenceBlocked(l, jid))
		}
	}
	for _, j := range fewJids() {
		text := impl.JidText(j)
		for _, element := range addressesNear(blocks(text)) {
			checkBlocked(t, blocks(element), text, referenceBlocked(blocks(element), text))
		}
	}
	for _, jid := range append(sendersOfTests(), "", "a b") {
		checkBlocked(t, nil, jid, false)
	}
}

func TestOnlyAddressesAreBlocked(t *testing.T) {
	l := blocks("a", "ann@b", "b/x")
	for _, text := range append(textsThatAreNoAddresses(), "", "ANN@a", "Ann@b", "ann@B", "A", "B/x", "ann@A/x", "a ", " a", "ann@a/", "@a", "a/x/y") {
		checkBlocked(t, l, text, false)
	}
	for _, text := range blocks("a", "ann@a", "ann@a/x", "ann@b/X", "b/x", "bob@b/x") {
		checkBlocked(t, l, text, true)
	}
}

// Promise 25, as it is said.
func TestBlockedAndUnblocked(t *testing.T) {
	for _, l := range append(validBlocks(), mixedBlocks()) {
		for _, jid := range addressesNear(l) {
			added := impl.BlockAdd(l, jid)
			if added.Code != impl.OK {
				continue
			}
			checkBlocked(t, added.Blocks, jid, true)
			if !strings.Contains(jid, "/") {
				checkBlocked(t, added.Blocks, jid+"/x", true)
				checkBlocked(t, added.Blocks, jid+"/"+long(30), true)
			}
			if !strings.ContainsAny(jid, "@/") {
				checkBlocked(t, added.Blocks, "anyone@"+jid, true)
				checkBlocked(t, added.Blocks, "anyone@"+jid+"/x", true)
			}
			for _, other := range addressesNear(l) {
				checkBlocked(t, added.Blocks, other, referenceBlocked(l, other) || referenceBlocked(blocks(jid), other))
			}
			unblocked := checkDel(t, added.Blocks, jid, impl.BlocksOut{Blocks: l})
			checkBlocked(t, unblocked, jid, referenceBlocked(l, jid))
		}
		for _, jid := range l {
			checkAdd(t, checkDel(t, l, jid, referenceDel(l, jid)), jid, impl.BlocksOut{Blocks: l})
		}
	}
}

// Promise 26, for all orders of senders that are blocked and of others.
func TestHeardInEveryOrder(t *testing.T) {
	l := blocks("a", "bob@b")
	senders := blocks("", "a", "ann@a/x", "bob@b/x", "c@c", "dan@b")
	eachOrder(senders, func(list []string) {
		for count := range len(list) + 1 {
			stanzas := stanzasFrom(list[:count]...)
			var want []impl.Stanza
			for _, s := range stanzas {
				if s.From == "" || s.From == "c@c" || s.From == "dan@b" {
					want = append(want, s)
				}
			}
			heard := checkHeard(t, l, stanzas, want)
			checkHeard(t, l, heard, want)
		}
	})
}

func TestHeard(t *testing.T) {
	l := blocks("a", "bob@b", "c@c/x")
	checkHeard(t, l, nil, nil)
	checkHeard(t, l, []impl.Stanza{}, nil)
	checkHeard(t, nil, nil, nil)
	for _, from := range blocks("", "b", "b/x", "dan@b", "c@c", "c@c/X", "bob@bb", "c") {
		checkHeard(t, l, stanzasFrom(from), stanzasFrom(from))
	}
	for _, from := range blocks("a", "a/x", "ann@a", "ann@a/x", "bob@b", "bob@b/x", "c@c/x") {
		checkHeard(t, l, stanzasFrom(from), nil)
		checkHeard(t, l, stanzasFrom(from, from, from), nil)
		checkHeard(t, nil, stanzasFrom(from), stanzasFrom(from))
		checkHeard(t, blocks("d"), stanzasFrom(from, from), stanzasFrom(from, from))
	}
	// To whom a stanza goes does not matter, and equal stanzas are all heard.
	s := stanzaFrom("dan@b")
	for _, to := range blocks("", "a", "ann@a", "bob@b", "c@c/x") {
		s.To = to
		checkHeard(t, l, []impl.Stanza{s, s}, []impl.Stanza{s, s})
	}
}

// Promise 26, for all stanzas of the tests and all their senders.
func TestHeardOfEveryStanza(t *testing.T) {
	stanzas := validStanzas()
	for _, l := range [][]string{nil, blocks("a"), blocks("ann@a"), blocks("a/=", "a/@:;"), blocks("a.b/Home", "bob@b/x=y", longestAddress()), blocks("z")} {
		for from := 0; from < len(stanzas); from += impl.MaxList {
			part := stanzas[from:min(from+impl.MaxList, len(stanzas))]
			checkHeard(t, l, part, referenceHeard(l, part))
			if t.Failed() {
				return
			}
		}
	}
	for _, l := range validBlocks() {
		mixed := stanzasFrom(append(addressesNear(l), "")...)
		checkHeard(t, l, mixed, referenceHeard(l, mixed))
		slices.Reverse(mixed)
		checkHeard(t, l, mixed, referenceHeard(l, mixed))
	}
}

func TestInvalidStanzasAreHeard(t *testing.T) {
	// All of them are from a blocked sender, or from what is no address.
	l := blocks("ann@a")
	wrong := invalidStanzas()
	checkHeard(t, l, wrong, wrong)
	for _, s := range wrong {
		blocked, other := stanzaFrom("ann@a/x"), stanzaFrom("dan@b")
		checkHeard(t, l, []impl.Stanza{s}, []impl.Stanza{s})
		checkHeard(t, l, []impl.Stanza{blocked, s, other, blocked, s}, []impl.Stanza{s, other, s})
	}
	for _, from := range blocks("ANN@a", "Ann@a/x", "ann@A", "ann@a/", "ann@a b") {
		checkHeard(t, l, stanzasFrom(from), stanzasFrom(from))
	}
	checkHeard(t, l, make([]impl.Stanza, impl.MaxList), make([]impl.Stanza, impl.MaxList))
}

// Each of the addresses would be accepted, or give another error, with some of these lists if they were valid.
func TestInvalidBlocksAreRejected(t *testing.T) {
	for _, l := range invalidBlocks() {
		list := append(addressesNear(nil), "", "A", "a b", "u000@b", long(impl.MaxBytes))
		for _, jid := range withinLimit(append(list, l[:min(len(l), impl.MaxBlocks)]...)) {
			checkAdd(t, l, jid, noBlocks(impl.ErrForm))
			checkDel(t, l, jid, noBlocks(impl.ErrForm))
			checkBlocked(t, l, jid, false)
		}
		checkHeard(t, l, nil, nil)
		checkHeard(t, l, stanzasFrom(append(addressesNear(nil), "")...), nil)
		checkHeard(t, l, invalidStanzas(), nil)
	}
}

func TestLimitsOfBlocks(t *testing.T) {
	long20000, longer := long(impl.MaxBytes), long(impl.MaxBytes+1)
	for _, l := range append(validBlocks(), invalidBlocks()...) {
		checkAdd(t, l, longer, noBlocks(impl.ErrSize))
		checkDel(t, l, longer, noBlocks(impl.ErrSize))
		checkAdd(t, l, long20000, noBlocks(impl.ErrForm))
		want := noBlocks(impl.ErrNone)
		if !impl.BlocksRight(l) {
			want = noBlocks(impl.ErrForm)
		}
		checkDel(t, l, long20000, want)
		checkBlocked(t, l, long20000, false)
		checkBlocked(t, l, longer, false)
	}
	for _, jid := range []string{"a", "u000@b", "", "A", long20000, longer} {
		for _, l := range [][]string{blocksOfTests(impl.MaxList + 1), make([]string, impl.MaxList+1)} {
			checkAdd(t, l, jid, noBlocks(impl.ErrSize))
			checkDel(t, l, jid, noBlocks(impl.ErrSize))
			checkBlocked(t, l, jid, false)
			checkHeard(t, l, stanzasFrom("c@c"), nil)
		}
		for _, l := range [][]string{blocksOfTests(impl.MaxList), make([]string, impl.MaxList)} {
			if len(jid) <= impl.MaxBytes {
				checkAdd(t, l, jid, noBlocks(impl.ErrForm))
				checkDel(t, l, jid, noBlocks(impl.ErrForm))
			}
		}
	}
	// Elements that are too long are no addresses, and not too long for the function.
	checkAdd(t, blocks("a", longer), "b", noBlocks(impl.ErrForm))
	checkDel(t, blocks("a", longer), "a", noBlocks(impl.ErrForm))
	many := stanzasFrom(blocksOfTests(impl.MaxList + 1)...)
	for _, l := range [][]string{nil, blocks("a"), blocks("b"), fullBlocks()} {
		checkHeard(t, l, many, nil)
		checkHeard(t, l, many[:impl.MaxList], referenceHeard(l, many[:impl.MaxList]))
	}
}

func TestRandomBlocks(t *testing.T) {
	random := rand.New(rand.NewSource(11))
	list := sendersOfTests()
	sizes := map[int]int{}
	var l []string
	for step := range 20000 {
		jid := list[random.Intn(len(list))]
		var out impl.BlocksOut
		// The list is filled and emptied in turn, in 200 steps each.
		filling := step/200%2 == 0
		if filling == (random.Intn(10) < 8) {
			out = referenceAdd(l, jid)
			checkAdd(t, l, jid, out)
		} else {
			out = referenceDel(l, jid)
			checkDel(t, l, jid, out)
		}
		if out.Code == impl.OK {
			l = out.Blocks
		}
		sizes[len(l)]++
		other := list[random.Intn(len(list))]
		checkBlocked(t, l, other, referenceBlocked(l, other))
		stanzas := stanzasFrom(jid, other, "", list[random.Intn(len(list))])
		checkHeard(t, l, stanzas, referenceHeard(l, stanzas))
		if t.Failed() {
			return
		}
	}
	if len(sizes) != impl.MaxBlocks+1 {
		t.Errorf("lists of so many elements were reached: %v", sizes)
	}
}

// checkTextsNotShared tells when one of the texts shares its memory with one that was given, or with another one of them.
func checkTextsNotShared(t *testing.T, what string, texts []string, given []string) {
	t.Helper()
	for at, text := range texts {
		if slices.ContainsFunc(given, func(other string) bool { return sharesText(text, other) }) {
			t.Errorf("%s: the text %q is shared", what, text)
		}
		if slices.ContainsFunc(texts[:at], func(other string) bool { return sharesText(text, other) }) {
			t.Errorf("%s: the text %q is there twice", what, text)
		}
	}
}

func TestBlocksAreNotShared(t *testing.T) {
	spare := make([]string, 0, 20)
	for _, jid := range mixedBlocks() {
		spare = append(spare, strings.Clone(jid))
	}
	jid := strings.Clone("dan@b")
	given := append(slices.Clone(spare), jid)
	before := slices.Clone(spare[:cap(spare)])
	for i, out := range []impl.BlocksOut{
		impl.BlockAdd(spare, jid), impl.BlockAdd(nil, jid), impl.BlockDel(spare, "a"), impl.BlockDel(spare, "bob@b"), impl.BlockDel(spare, "zoe@z"),
	} {
		if out.Code != impl.OK {
			t.Fatalf("call %d: code %d", i, out.Code)
		}
		checkTextsNotShared(t, fmt.Sprintf("call %d", i), out.Blocks, given)
		clear(out.Blocks)
		_ = append(out.Blocks, "x")
	}
	if !slices.Equal(spare[:cap(spare)], before) {
		t.Errorf("the list is changed: %q", spare[:cap(spare)])
	}
}

func TestHeardStanzasAreNotShared(t *testing.T) {
	l := mixedBlocks()
	spare := make([]impl.Stanza, 0, 20)
	var given []string
	// The last one is not valid.
	for _, s := range append(stanzasFrom("dan@b", "bob@b", "ann@d/x"), chat(), impl.Stanza{Kind: "none", From: "a", Body: "\n"}) {
		spare = append(spare, clonedStanza(s))
		given = append(given, fields(spare[len(spare)-1])...)
	}
	before := slices.Clone(spare[:cap(spare)])
	for _, stanzas := range [][]impl.Stanza{spare, spare[:1], spare[4:]} {
		for _, blocked := range [][]string{nil, blocks("z"), l} {
			heard := impl.Heard(blocked, stanzas)
			if len(heard) == 0 {
				t.Fatalf("%s are not heard with %q", shownStanzas(stanzas), blocked)
			}
			var texts []string
			for _, s := range heard {
				texts = append(texts, fields(s)...)
			}
			checkTextsNotShared(t, fmt.Sprintf("%d stanzas", len(stanzas)), texts, given)
			clear(heard)
			_ = append(heard, chat())
		}
	}
	if !slices.Equal(spare[:cap(spare)], before) {
		t.Errorf("the stanzas are changed: %s", shownStanzas(spare[:cap(spare)]))
	}
}
