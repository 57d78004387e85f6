package tests

import (
	"cmp"
	"regexp"
	"strings"
	"testing"

	"loop.example/g00387/impl"
)

const (
	bytesOfDomains   = "abcdefghijklmnopqrstuvwxyz0123456789.-"
	bytesOfLocals    = bytesOfDomains + "_"
	bytesOfResources = "!#$%()*+,-.0123456789:;=?@ABCDEFGHIJKLMNOPQRSTUVWXYZ[\\]^_`abcdefghijklmnopqrstuvwxyz{|}~"
)

func jid(local, domain, resource string) impl.Jid {
	return impl.Jid{Local: local, Domain: domain, Resource: resource}
}

func parts(j impl.Jid) []string {
	return []string{j.Local, j.Domain, j.Resource}
}

func domainsOfTests() []string {
	return []string{"a", "0", "a.b", "a-b", "a--b", "a.-b", "a-.b", "ab", "a.b.c", "b", "z9", long(30), long(29)}
}

// validJids returns all combinations of some parts, so that many of them share a part or begin with the same bytes.
func validJids() []impl.Jid {
	locals := []string{"", "a", "ann", "an", "-", ".", "_", "..", "a.b", "z_9-", long(30), long(29)}
	resources := []string{"", "Home", "home", "HOME", "h", "@", "a@b", "!", "~", "-.", long(30), long(29)}
	var list []impl.Jid
	for _, local := range locals {
		for _, domain := range domainsOfTests() {
			for _, resource := range resources {
				list = append(list, jid(local, domain, resource))
			}
		}
	}
	return list
}

// fewJids returns some of the valid Jids, for tests of all pairs.
func fewJids() []impl.Jid {
	var list []impl.Jid
	for _, local := range []string{"", "a", "ab", "b", "_", "-"} {
		for _, domain := range []string{"a", "a.b", "a-b", "ab", "b", "0"} {
			for _, resource := range []string{"", "a", "A", "ab", "b", "~"} {
				list = append(list, jid(local, domain, resource))
			}
		}
	}
	return list
}

func invalidJids() []impl.Jid {
	list := []impl.Jid{
		{},
		jid("ann", "", ""), jid("", "", "Home"), jid("ann", "", "Home"),
		jid(long(31), "a", ""), jid("", long(31), ""), jid("", "a", long(31)),
		jid(long(impl.MaxBytes+1), "a", ""), jid("", long(impl.MaxBytes+1), ""), jid("", "a", long(impl.MaxBytes+1)),
		jid("Ann", "a", ""), jid("a n", "a", ""), jid("a@b", "a", ""), jid("a/b", "a", ""), jid("é", "a", ""), jid("\x00", "a", ""),
		jid("", "A", ""), jid("", "a_b", ""), jid("", "a b", ""), jid("", "a@b", ""), jid("", "a/b", ""), jid("", "aéb", ""),
		jid("", "a", " "), jid("", "a", "a b"), jid("", "a", "\x7f"), jid("", "a", "é"), jid("", "a", "a\n"), jid("", "a", "\xff"),
	}
	for _, domain := range []string{".", "-", ".a", "-a", "a.", "a-", "..", "a..b", "a...b", "a.b..c", ".a.", "." + long(29), long(29) + "-"} {
		list = append(list, jid("", domain, ""), jid("ann", domain, "Home"))
	}
	for _, b := range "/<>&'\"" {
		one := string(b)
		list = append(list, jid("", "a", one), jid("ann", "a", "x"+one), jid("ann", "a", one+"x"), jid("", "a", "x"+one+"x"))
	}
	return list
}

func checkJidRead(t *testing.T, text string, want impl.JidOut) {
	t.Helper()
	if got := impl.JidRead(text); got != want {
		t.Errorf("JidRead(%.100q) = %.100q with code %d, want %.100q with code %d", text, parts(got.Jid), got.Code, parts(want.Jid), want.Code)
	}
}

func checkRight(t *testing.T, j impl.Jid, want bool) {
	t.Helper()
	if got := impl.JidRight(j); got != want {
		t.Errorf("JidRight(%.100q) = %v, want %v", parts(j), got, want)
	}
}

func TestValidJids(t *testing.T) {
	for _, j := range validJids() {
		checkRight(t, j, true)
	}
	for _, j := range invalidJids() {
		checkRight(t, j, false)
	}
}

func TestSizesOfParts(t *testing.T) {
	for size := range 40 {
		part := long(size)
		checkRight(t, jid(part, "a", ""), size <= 30)
		checkRight(t, jid("", part, ""), size >= 1 && size <= 30)
		checkRight(t, jid("", "a", part), size <= 30)
	}
	checkRight(t, jid(long(30), long(30), long(30)), true)
}

func TestBytesOfParts(t *testing.T) {
	for b := range 256 {
		one := string([]byte{byte(b)})
		for _, part := range []string{one, one + "a", "a" + one, "a" + one + "a", long(29) + one, one + long(29)} {
			checkRight(t, jid(part, "a", ""), strings.Contains(bytesOfLocals, one))
			checkRight(t, jid("", "a", part), strings.Contains(bytesOfResources, one))
		}
		checkRight(t, jid("", "a"+one+"a", ""), strings.Contains(bytesOfDomains, one))
		inside := strings.Contains(bytesOfDomains, one)
		edge := inside && one != "." && one != "-"
		for _, domain := range []string{one, one + "a", "a" + one, "a." + one, one + "-a"} {
			checkRight(t, jid("", domain, ""), edge)
		}
	}
}

func TestJidTexts(t *testing.T) {
	cases := []struct {
		j    impl.Jid
		want string
	}{
		{jid("ann", "a.b", "Home"), "ann@a.b/Home"},
		{jid("ann", "a.b", ""), "ann@a.b"},
		{jid("", "a.b", "Home"), "a.b/Home"},
		{jid("", "a.b", ""), "a.b"},
		{jid("", "a", "x@y"), "a/x@y"},
		{jid(long(30), long(30), long(30)), long(30) + "@" + long(30) + "/" + long(30)},
	}
	for _, c := range cases {
		if got := impl.JidText(c.j); got != c.want {
			t.Errorf("JidText(%+v) = %q, want %q", c.j, got, c.want)
		}
	}
	for _, j := range invalidJids() {
		if got := impl.JidText(j); got != "" {
			t.Errorf("JidText of an invalid Jid is %.100q", got)
		}
	}
}

// Promise 4.
func TestJidIsRecovered(t *testing.T) {
	for _, j := range validJids() {
		checkJidRead(t, impl.JidText(j), impl.JidOut{Jid: j})
	}
}

// Promise 4, in upper case: the parts before the resource in upper case, wholly and byte by byte.
func TestJidIsRecoveredFromUpperCase(t *testing.T) {
	for _, j := range validJids() {
		text := strings.TrimSuffix(impl.JidText(j), j.Resource)
		checkJidRead(t, strings.ToUpper(text)+j.Resource, impl.JidOut{Jid: j})
		for i := range len(text) {
			checkJidRead(t, text[:i]+strings.ToUpper(text[i:i+1])+text[i+1:]+j.Resource, impl.JidOut{Jid: j})
		}
	}
}

// Promise 4, its exception: the case of a resource is kept.
func TestCaseOfResourceIsKept(t *testing.T) {
	for _, j := range validJids() {
		j.Resource = strings.ToUpper(j.Resource)
		checkJidRead(t, strings.ToUpper(impl.JidText(j)), impl.JidOut{Jid: j})
	}
	checkJidRead(t, "ANN@A.b/Home", impl.JidOut{Jid: jid("ann", "a.b", "Home")})
	checkJidRead(t, "A/B@C", impl.JidOut{Jid: jid("", "a", "B@C")})
	checkJidRead(t, "A@Z/AZ", impl.JidOut{Jid: jid("a", "z", "AZ")})
}

func TestOtherTextsAreNoAddresses(t *testing.T) {
	texts := []string{
		"", "@", "/", "@/", "@a", "a@", "a/", "@a/", "/a", "a@/x", "@/x", "a@b/",
		"a@b@c", "a@@b", "@a@b", "a@b@", "a@b@c/x",
		"a/x/y", "a//", "a//x", "a/x/", "ann@a.b/Home/",
		".a", "a.", "-a", "a-", "a..b", "x@.a", "x@a.", "x@-a", "x@a-", "x@a..b/y", "a./x", "a-/x",
		"a_b", "x@a_b", "a b", " a", "a ", "a\n", "a/x y", "a/\n", "a/\x7f", "a/é", "é", "é@a", "a\x00",
		"[", "a[", "`", "a`", "x[@a", "x{@a",
		"\u212a", "\u212a@a", "a/\u212a", "\u017f@a",
		long(31), long(31) + "@a", "a/" + long(31), long(impl.MaxBytes),
	}
	for _, b := range "/<>&'\"" {
		texts = append(texts, "a/"+string(b), "ann@a/x"+string(b)+"x", "a/"+string(b)+"x", "a/x"+string(b))
	}
	for _, text := range texts {
		checkJidRead(t, text, impl.JidOut{Code: impl.ErrSyntax})
	}
}

func TestTextsOfPartsOfEverySize(t *testing.T) {
	for size := range 40 {
		part := long(size)
		for text, j := range map[string]impl.Jid{part: jid("", part, ""), part + "@a": jid(part, "a", ""), "a/" + part: jid("", "a", part)} {
			want := impl.JidOut{Jid: j}
			if size < 1 || size > 30 {
				want = impl.JidOut{Code: impl.ErrSyntax}
			}
			checkJidRead(t, text, want)
		}
	}
}

func TestJidReadSize(t *testing.T) {
	for _, text := range []string{long(impl.MaxBytes), "a/" + long(impl.MaxBytes-2), strings.Repeat("@", impl.MaxBytes)} {
		checkJidRead(t, text, impl.JidOut{Code: impl.ErrSyntax})
		checkJidRead(t, text+"x", impl.JidOut{Code: impl.ErrSize})
	}
	checkJidRead(t, long(2*impl.MaxBytes), impl.JidOut{Code: impl.ErrSize})
}

var addressForm = regexp.MustCompile(`^(?:([a-zA-Z0-9._-]{1,30})@)?([a-zA-Z0-9](?:[a-zA-Z0-9.-]{0,28}[a-zA-Z0-9])?)(?:/([!#-%(-.0-;=?-~]{1,30}))?$`)

// referenceRead reads an address with a regular expression.
func referenceRead(text string) impl.JidOut {
	found := addressForm.FindStringSubmatch(text)
	if found == nil || strings.Contains(found[2], "..") {
		return impl.JidOut{Code: impl.ErrSyntax}
	}
	return impl.JidOut{Jid: jid(strings.ToLower(found[1]), strings.ToLower(found[2]), found[3])}
}

func TestAllShortTexts(t *testing.T) {
	const alphabet = "aZ@/.-_<"
	texts := []string{""}
	for start := 0; len(texts[start]) < 5; start++ {
		for i := range len(alphabet) {
			texts = append(texts, texts[start]+alphabet[i:i+1])
		}
	}
	for _, text := range texts {
		checkJidRead(t, text, referenceRead(text))
	}
}

func TestEveryByteInATextIsReadAsByTheReference(t *testing.T) {
	const text = "Ann@A.b-c/Home"
	for b := range 256 {
		one := string([]byte{byte(b)})
		checkJidRead(t, one, referenceRead(one))
		for at := range len(text) {
			changed := text[:at] + one + text[at+1:]
			checkJidRead(t, changed, referenceRead(changed))
		}
		for at := range len(text) + 1 {
			inserted := text[:at] + one + text[at:]
			checkJidRead(t, inserted, referenceRead(inserted))
		}
	}
}

func TestBare(t *testing.T) {
	for _, j := range validJids() {
		want := jid(j.Local, j.Domain, "")
		if got := impl.Bare(j); got != want {
			t.Errorf("Bare(%+v) = %+v, want %+v", j, got, want)
		}
		if got := impl.Bare(impl.Bare(j)); got != want {
			t.Errorf("Bare of the bare %+v = %+v, want %+v", j, got, want)
		}
	}
	for _, j := range invalidJids() {
		if got := impl.Bare(j); got != (impl.Jid{}) {
			t.Errorf("Bare of an invalid Jid is %.100q", parts(got))
		}
	}
}

// Promise 5.
func TestOneOfTwoJidsPrecedes(t *testing.T) {
	list := fewJids()
	for i, a := range list {
		for k, b := range list {
			ab, ba := impl.JidLess(a, b), impl.JidLess(b, a)
			if i == k && (ab || ba) {
				t.Errorf("%+v precedes itself", a)
			}
			if i != k && ab == ba {
				t.Errorf("%+v and %+v: both ways %v", a, b, ab)
			}
		}
	}
}

// Promise 5, the order of the parts.
func TestOrderOfJids(t *testing.T) {
	list := fewJids()
	for _, a := range list {
		for _, b := range list {
			want := cmp.Or(strings.Compare(a.Domain, b.Domain), strings.Compare(a.Local, b.Local), strings.Compare(a.Resource, b.Resource)) < 0
			if got := impl.JidLess(a, b); got != want {
				t.Errorf("JidLess(%+v, %+v) = %v, want %v", a, b, got, want)
			}
		}
	}
	rising := []impl.Jid{jid("z", "a", "z"), jid("z", "a-b", "z"), jid("z", "a.b", "z"), jid("", "b", ""), jid("", "b", "A"), jid("", "b", "a"),
		jid("a", "b", ""), jid("a", "b", "a"), jid("a", "b", "ab"), jid("ab", "b", ""), jid("b", "b", "")}
	for i, a := range rising {
		for k, b := range rising {
			if got := impl.JidLess(a, b); got != (i < k) {
				t.Errorf("JidLess(%+v, %+v) = %v", a, b, got)
			}
		}
	}
}

func TestInvalidJidsHaveNoOrder(t *testing.T) {
	lists := [][]impl.Jid{invalidJids(), {jid("", "a", ""), jid("ann", "a", "Home"), jid("z", "z", "~")}}
	for _, bad := range lists[0] {
		for _, list := range lists {
			for _, other := range list {
				if impl.JidLess(bad, other) || impl.JidLess(other, bad) {
					t.Errorf("an invalid Jid has an order: %.100q", parts(bad))
				}
			}
		}
	}
}

func TestMatchesExamples(t *testing.T) {
	full := jid("ann", "a.b", "Home")
	cases := []struct {
		pattern, j impl.Jid
		want       bool
	}{
		{jid("", "a.b", ""), full, true},
		{jid("ann", "a.b", ""), full, true},
		{jid("", "a.b", "Home"), full, true},
		{full, full, true},
		{full, impl.Bare(full), false},
		{jid("", "a.b", "home"), full, false},
		{jid("an", "a.b", ""), full, false},
		{jid("", "a", ""), full, false},
		{jid("", "b", ""), full, false},
		{jid("ann", "a.b", ""), jid("", "a.b", ""), false},
		{jid("", "a.b", ""), jid("", "a.b", ""), true},
	}
	for _, c := range cases {
		if got := impl.Matches(c.pattern, c.j); got != c.want {
			t.Errorf("Matches(%+v, %+v) = %v, want %v", c.pattern, c.j, got, c.want)
		}
	}
}

func TestMatchesOfAllPairs(t *testing.T) {
	list := fewJids()
	for _, p := range list {
		for _, j := range list {
			want := p.Domain == j.Domain && (p.Local == "" || p.Local == j.Local) && (p.Resource == "" || p.Resource == j.Resource)
			if got := impl.Matches(p, j); got != want {
				t.Errorf("Matches(%+v, %+v) = %v, want %v", p, j, got, want)
			}
		}
	}
}

func TestInvalidJidsDoNotMatch(t *testing.T) {
	full := jid("ann", "a", "Home")
	for _, bad := range invalidJids() {
		if impl.Matches(bad, bad) || impl.Matches(bad, full) || impl.Matches(full, bad) || impl.Matches(jid("", "a", ""), bad) {
			t.Errorf("an invalid Jid matches: %.100q", parts(bad))
		}
	}
}
