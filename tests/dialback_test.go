package tests

import (
	"crypto/hmac"
	"crypto/sha256"
	"encoding/hex"
	"fmt"
	"math"
	"math/rand"
	"slices"
	"strconv"
	"strings"
	"testing"
	"unsafe"

	"loop.example/g00387/impl"
)

const (
	secretLimit = 100
	keyLimit    = 64
	keyOfTests  = "0123"
)

// peer returns a peer of the domain a, with a key unless its state is 0.
func peer(id int64, state int64) impl.Peer {
	if state == 0 {
		return impl.Peer{Domain: "a", Id: id}
	}
	return impl.Peer{Domain: "a", Id: id, State: state, Key: keyOfTests}
}

func dialbackWith(next int64, peers ...impl.Peer) impl.Dialback {
	return impl.Dialback{Domain: "b", Next: next, Peers: peers}
}

// peersOfTests returns the peers from 1 to count, with all states in turn.
func peersOfTests(count int64) []impl.Peer {
	var list []impl.Peer
	for id := int64(1); id <= count; id++ {
		list = append(list, peer(id, id%4))
	}
	return list
}

func fullDialback() impl.Dialback {
	return dialbackWith(impl.MaxPeers+1, peersOfTests(impl.MaxPeers)...)
}

// mixedDialback has a peer of every state: 2 is opened, 3 asked, 5 good, 7 bad.
func mixedDialback() impl.Dialback {
	return dialbackWith(9, peer(2, 0), peer(3, impl.DbAsked), peer(5, impl.DbGood), peer(7, impl.DbBad))
}

func validDialbacks() []impl.Dialback {
	list := []impl.Dialback{
		dialbackWith(1), dialbackWith(2), dialbackWith(impl.MaxTime - 1), dialbackWith(impl.MaxTime),
		{Domain: "b", Next: 1, Peers: []impl.Peer{}},
		dialbackWith(2, peer(1, 0)),
		dialbackWith(impl.MaxTime, peer(impl.MaxTime-1, impl.DbGood)),
		dialbackWith(impl.MaxTime, peer(1, 0), peer(impl.MaxTime-1, 0)),
		fullDialback(), mixedDialback(),
		dialbackWith(impl.MaxTime, peersOfTests(impl.MaxPeers)...),
		dialbackWith(impl.MaxTime, peersOfTests(impl.MaxPeers-1)...),
	}
	for _, domain := range domainsOfTests() {
		list = append(list,
			impl.Dialback{Domain: domain, Next: 3},
			impl.Dialback{Domain: "b", Next: 3, Peers: []impl.Peer{{Domain: domain, Id: 2}}},
			impl.Dialback{Domain: domain, Next: 3, Peers: []impl.Peer{{Domain: domain, Id: 1}, {Domain: domain, Id: 2, State: impl.DbGood, Key: "k"}}})
	}
	for _, key := range []string{"k", " ", "\x00", "\xff", "é", long(keyLimit - 1), long(keyLimit), strings.Repeat("\xff", keyLimit)} {
		for state := int64(1); state <= 3; state++ {
			list = append(list, dialbackWith(3, impl.Peer{Domain: "a", Id: 2, State: state, Key: key}))
		}
	}
	return list
}

func invalidDialbacks() []impl.Dialback {
	list := []impl.Dialback{
		{}, {Domain: "b"}, {Next: 3},
		dialbackWith(3, impl.Peer{}),
		dialbackWith(9, peer(2, 0), peer(2, 0)),
		dialbackWith(9, peer(2, 0), peer(2, impl.DbGood)),
		dialbackWith(9, peer(3, 0), peer(2, 0)),
		dialbackWith(9, peer(1, 0), peer(3, 0), peer(2, 0)),
		dialbackWith(9, peer(1, 0), peer(3, 0), peer(3, 0)),
		dialbackWith(9, peer(0, 0)), dialbackWith(9, peer(-1, 0)), dialbackWith(9, peer(0, 0), peer(1, 0)), dialbackWith(9, peer(math.MinInt64, 0)),
		dialbackWith(9, peer(9, 0)), dialbackWith(9, peer(10, 0)), dialbackWith(9, peer(1, 0), peer(9, 0)), dialbackWith(9, peer(math.MaxInt64, 0)),
		dialbackWith(1, peer(1, 0)), dialbackWith(impl.MaxTime, peer(impl.MaxTime, 0)), dialbackWith(impl.MaxTime+1, peer(impl.MaxTime, 0)),
		dialbackWith(impl.MaxPeers+2, peersOfTests(impl.MaxPeers+1)...),
		dialbackWith(impl.MaxTime, peersOfTests(impl.MaxPeers+1)...),
		dialbackWith(impl.MaxTime, peersOfTests(impl.MaxList+1)...),
	}
	for _, next := range []int64{0, -1, -3, math.MinInt64, impl.MaxTime + 1, impl.MaxTime + 3, 1<<32 + 3, math.MaxInt64} {
		list = append(list, dialbackWith(next), dialbackWith(next, peer(1, 0)))
	}
	for _, text := range textsThatAreNoDomains() {
		list = append(list,
			impl.Dialback{Domain: text, Next: 3}, impl.Dialback{Domain: text, Next: 3, Peers: []impl.Peer{peer(2, 0)}},
			dialbackWith(3, impl.Peer{Domain: text, Id: 2}), dialbackWith(3, peer(1, 0), impl.Peer{Domain: text, Id: 2}),
			dialbackWith(3, impl.Peer{Domain: text, Id: 2, State: impl.DbGood, Key: "k"}))
	}
	for _, state := range []int64{-1, 4, -3, 1 << 32, 1<<32 + 2, math.MinInt64, math.MaxInt64} {
		list = append(list, dialbackWith(3, impl.Peer{Domain: "a", Id: 2, State: state, Key: keyOfTests}), dialbackWith(3, impl.Peer{Domain: "a", Id: 2, State: state}))
	}
	for _, key := range []string{"k", "\x00", long(keyLimit), long(keyLimit + 1)} {
		list = append(list, dialbackWith(3, impl.Peer{Domain: "a", Id: 2, Key: key}))
	}
	for state := int64(1); state <= 3; state++ {
		for _, key := range []string{"", long(keyLimit + 1), strings.Repeat("é", keyLimit/2) + "x", long(impl.MaxBytes + 1)} {
			list = append(list, dialbackWith(3, impl.Peer{Domain: "a", Id: 2, State: state, Key: key}))
		}
	}
	return list
}

func shownDialback(d impl.Dialback) string {
	text := fmt.Sprintf("{%.60q, Next %d, %d peers:", d.Domain, d.Next, len(d.Peers))
	for _, p := range d.Peers[:min(len(d.Peers), impl.MaxPeers+1)] {
		text += fmt.Sprintf(" {%.60q %d %d %.80q}", p.Domain, p.Id, p.State, p.Key)
	}
	return text + "}"
}

func sameDialback(a impl.Dialback, b impl.Dialback) bool {
	return a.Domain == b.Domain && a.Next == b.Next && slices.Equal(a.Peers, b.Peers)
}

func checkDialback(t *testing.T, what string, got impl.DialbackOut, want impl.DialbackOut) {
	t.Helper()
	if got.Code != want.Code || got.Id != want.Id || !sameDialback(got.Dialback, want.Dialback) {
		t.Errorf("%s: %s with Id %d and code %d, want %s with Id %d and code %d", what, shownDialback(got.Dialback), got.Id, got.Code, shownDialback(want.Dialback), want.Id, want.Code)
	}
	if got.Code == impl.OK && !impl.DialbackRight(got.Dialback) {
		t.Errorf("%s: %s is not valid", what, shownDialback(got.Dialback))
	}
}

func checkOpen(t *testing.T, d impl.Dialback, from string, want impl.DialbackOut) impl.DialbackOut {
	t.Helper()
	got := impl.DbOpen(d, from)
	checkDialback(t, fmt.Sprintf("DbOpen(%s, %.60q)", shownDialback(d), from), got, want)
	return got
}

func checkResult(t *testing.T, d impl.Dialback, id int64, key string, want impl.DialbackOut) impl.DialbackOut {
	t.Helper()
	got := impl.DbResult(d, id, key)
	checkDialback(t, fmt.Sprintf("DbResult(%s, %d, %.80q)", shownDialback(d), id, key), got, want)
	return got
}

func checkVerified(t *testing.T, d impl.Dialback, id int64, good bool, want impl.DialbackOut) impl.DialbackOut {
	t.Helper()
	got := impl.DbVerified(d, id, good)
	checkDialback(t, fmt.Sprintf("DbVerified(%s, %d, %v)", shownDialback(d), id, good), got, want)
	return got
}

func checkTrusts(t *testing.T, d impl.Dialback, from string, id int64, want bool) {
	t.Helper()
	if got := impl.DbTrusts(d, from, id); got != want {
		t.Errorf("DbTrusts(%s, %.60q, %d) = %v", shownDialback(d), from, id, got)
	}
}

// keyCase holds the arguments of a key.
type keyCase struct {
	secret string
	to     string
	from   string
	id     int64
}

func (c keyCase) key() string {
	return impl.DbKey(c.secret, c.to, c.from, c.id)
}

func (c keyCase) answer(key string) bool {
	return impl.DbAnswer(c.secret, c.to, c.from, c.id, key)
}

func (c keyCase) shown() string {
	return fmt.Sprintf("%.120q, %.60q, %.60q, %d", c.secret, c.to, c.from, c.id)
}

func (c keyCase) reference() string {
	hidden := sha256.Sum256([]byte(c.secret))
	mac := hmac.New(sha256.New, hidden[:])
	mac.Write([]byte(c.to + " " + c.from + " " + strconv.FormatInt(c.id, 10)))
	return hex.EncodeToString(mac.Sum(nil))
}

func validKeyCases() []keyCase {
	list := []keyCase{{"s", "b", "a", 3}, {"s", "b", "a", impl.MaxTime - 1}}
	for _, secret := range []string{"s", "t", " ", "\x00", "\xff", "é", "ss", strings.Repeat("\xff", secretLimit), long(63), long(64), long(65), long(secretLimit - 1), long(secretLimit)} {
		for _, id := range []int64{1, 2, 10, impl.MaxTime} {
			list = append(list, keyCase{secret, "b", "a", id}, keyCase{secret, "a", "b", id}, keyCase{secret, "a", "a", id})
		}
	}
	for _, to := range domainsOfTests() {
		for _, from := range domainsOfTests() {
			list = append(list, keyCase{"secret", to, from, 12})
		}
	}
	return list
}

func invalidKeyCases() []keyCase {
	list := []keyCase{{}, {"", "b", "a", 3}, {"s", "b", "", 3}, {"s", "", "a", 3}}
	for _, secret := range []string{"", long(secretLimit + 1), strings.Repeat("é", secretLimit/2) + "x", long(impl.MaxBytes), long(impl.MaxBytes + 1)} {
		list = append(list, keyCase{secret, "b", "a", 3})
	}
	for _, text := range textsThatAreNoDomains() {
		list = append(list, keyCase{"s", text, "a", 3}, keyCase{"s", "b", text, 3}, keyCase{"s", text, text, 3})
	}
	for _, id := range []int64{0, -1, -3, math.MinInt64, impl.MaxTime + 1, impl.MaxTime + 3, 1<<32 + 3, math.MaxInt64} {
		list = append(list, keyCase{"s", "b", "a", id})
	}
	return list
}

func TestKeysByHand(t *testing.T) {
	cases := []struct {
		c    keyCase
		want string
	}{
		{keyCase{"s", "b", "a", 3}, "b95b1101d7f3f2df3a102bff805d50f4f3bd7b8b68f583a5262d1362240fc20f"},
		{keyCase{"s3cr3tf0rd14lb4ck", "xmpp.example.com", "example.org", impl.MaxTime}, "e726b31cce9615626895c22c29cfa2dc3b8d218e95490a4ba859e5e84b47a2b2"},
		{keyCase{"\x00", "a", "a", 1}, "a3e45fdcd0f50b6468fefae0392ab944830598a6f9250a0035a4c18f69e26e85"},
	}
	for _, c := range cases {
		if got := c.c.key(); got != c.want {
			t.Errorf("DbKey(%s) = %q, want %q", c.c.shown(), got, c.want)
		}
	}
}

func TestKeysAgainstTheLibrary(t *testing.T) {
	for _, c := range validKeyCases() {
		if got := c.key(); got != c.reference() {
			t.Errorf("DbKey(%s) = %q, want %q", c.shown(), got, c.reference())
		}
	}
	for _, c := range invalidKeyCases() {
		if got := c.key(); got != "" {
			t.Errorf("DbKey(%s) = %q, want none", c.shown(), got)
		}
	}
}

func TestSizesOfSecrets(t *testing.T) {
	for size := range secretLimit + 30 {
		c := keyCase{long(size), "b", "a", 3}
		right := size >= 1 && size <= secretLimit
		if got := c.key() != ""; got != right {
			t.Errorf("a secret of %d bytes: there is a key is %v", size, got)
		}
		if got := c.answer(c.reference()); got != right {
			t.Errorf("a secret of %d bytes: the answer is %v", size, got)
		}
	}
}

func TestIdsOfKeys(t *testing.T) {
	for _, n := range numbers() {
		for _, id := range []int64{n, impl.MaxTime + n} {
			c := keyCase{"s", "b", "a", id}
			right := id >= 1 && id <= impl.MaxTime
			if got := c.key() != ""; got != right {
				t.Errorf("the id %d: there is a key is %v", id, got)
			}
			if got := c.answer(c.reference()); got != right {
				t.Errorf("the id %d: the answer is %v", id, got)
			}
		}
	}
}

// Promise 11: of all keys of these streams, a server confirms only the one of the same secret, domains and id.
func TestOnlyTheOwnKeyIsConfirmed(t *testing.T) {
	cases := validKeyCases()
	keys := make([]string, len(cases))
	for i, c := range cases {
		keys[i] = c.key()
	}
	for _, c := range cases {
		for i, other := range cases {
			if got := c.answer(keys[i]); got != (c == other) {
				t.Errorf("DbAnswer(%s) of the key of (%s) is %v", c.shown(), other.shown(), got)
			}
		}
	}
}

func TestKeysThatAreNotConfirmed(t *testing.T) {
	c := keyCase{"s", "b", "a", 3}
	key := c.key()
	wrong := []string{"", " ", "0", key + " ", " " + key, key + "\n", key + "0", key[1:], key[:len(key)-1], strings.ToUpper(key), key + key, key[:1], "\x00", impl.Digest("s"),
		strings.Repeat("0", len(key)), long(keyLimit), long(keyLimit + 1), long(impl.MaxBytes), long(impl.MaxBytes + 1), key + long(impl.MaxBytes)}
	for at := range key {
		for _, bit := range []byte{1, 2, 4, 8, 16, 32, 64, 128} {
			changed := []byte(key)
			changed[at] ^= bit
			wrong = append(wrong, string(changed))
		}
	}
	for _, text := range wrong {
		if c.answer(text) {
			t.Errorf("DbAnswer(%s, %.120q) = true", c.shown(), text)
		}
	}
	if !c.answer(key) {
		t.Errorf("DbAnswer(%s, %q) = false", c.shown(), key)
	}
}

// Where there is no key, DbKey is empty, but an empty key is not confirmed.
func TestNothingIsConfirmedWithoutAKey(t *testing.T) {
	for _, c := range invalidKeyCases() {
		for _, key := range []string{"", "0", c.reference(), keyCase{"s", "b", "a", 3}.key(), long(impl.MaxBytes + 1)} {
			if c.answer(key) {
				t.Errorf("DbAnswer(%s, %.120q) = true", c.shown(), key)
			}
		}
	}
}

func TestValidDialbacks(t *testing.T) {
	for _, d := range validDialbacks() {
		if !impl.DialbackRight(d) {
			t.Errorf("%s is not valid", shownDialback(d))
		}
	}
	for _, d := range invalidDialbacks() {
		if impl.DialbackRight(d) {
			t.Errorf("%s is valid", shownDialback(d))
		}
	}
}

func TestNumbersOfDialbacks(t *testing.T) {
	for _, n := range numbers() {
		for _, number := range []int64{n, impl.MaxTime + n} {
			if got := impl.DialbackRight(dialbackWith(number)); got != (number >= 1 && number <= impl.MaxTime) {
				t.Errorf("Next %d: valid is %v", number, got)
			}
			for _, next := range []int64{2, 100, impl.MaxTime} {
				if got := impl.DialbackRight(dialbackWith(next, peer(number, 0))); got != (number >= 1 && number <= next-1) {
					t.Errorf("Next %d and a peer with Id %d: valid is %v", next, number, got)
				}
			}
		}
	}
}

func TestPairsOfPeers(t *testing.T) {
	for first := int64(-1); first <= 7; first++ {
		for second := int64(-1); second <= 7; second++ {
			want := first >= 1 && second > first && second <= 5
			if got := impl.DialbackRight(dialbackWith(6, peer(first, 0), peer(second, impl.DbAsked))); got != want {
				t.Errorf("Next 6 and peers with the Ids %d and %d: valid is %v", first, second, got)
			}
		}
	}
}

func TestNumberOfPeers(t *testing.T) {
	for count := range int64(2*impl.MaxPeers + 1) {
		if got := impl.DialbackRight(dialbackWith(100, peersOfTests(count)...)); got != (count <= impl.MaxPeers) {
			t.Errorf("%d peers: valid is %v", count, got)
		}
	}
}

func TestStatesAndKeys(t *testing.T) {
	for state := int64(-3); state <= 6; state++ {
		for size := range keyLimit + 10 {
			want := state == 0 && size == 0 || state >= 1 && state <= 3 && size >= 1 && size <= keyLimit
			if got := impl.DialbackRight(dialbackWith(3, impl.Peer{Domain: "a", Id: 2, State: state, Key: long(size)})); got != want {
				t.Errorf("State %d and a Key of %d bytes: valid is %v", state, size, got)
			}
		}
	}
	if impl.DbAsked != 1 || impl.DbGood != 2 || impl.DbBad != 3 || impl.MaxPeers != 10 {
		t.Errorf("the constants are %d, %d, %d and %d", impl.DbAsked, impl.DbGood, impl.DbBad, impl.MaxPeers)
	}
}

func TestDialbackExample(t *testing.T) {
	key := impl.DbKey("s", "b", "a", 3)
	opened := checkOpen(t, dialbackWith(3), "a", impl.DialbackOut{Dialback: dialbackWith(4, impl.Peer{Domain: "a", Id: 3}), Id: 3}).Dialback
	checkTrusts(t, opened, "a", 3, false)
	checkVerified(t, opened, 3, true, impl.DialbackOut{Code: impl.ErrState})

	asked := checkResult(t, opened, 3, key, impl.DialbackOut{Dialback: dialbackWith(4, impl.Peer{Domain: "a", Id: 3, State: impl.DbAsked, Key: key})}).Dialback
	checkTrusts(t, asked, "a", 3, false)
	checkResult(t, asked, 3, key, impl.DialbackOut{Code: impl.ErrState})

	good := checkVerified(t, asked, 3, impl.DbAnswer("s", "b", "a", 3, key), impl.DialbackOut{Dialback: dialbackWith(4, impl.Peer{Domain: "a", Id: 3, State: impl.DbGood, Key: key})}).Dialback
	checkTrusts(t, good, "a", 3, true)
	checkTrusts(t, good, "b", 3, false)
	checkTrusts(t, good, "a", 4, false)

	bad := checkVerified(t, asked, 3, impl.DbAnswer("s", "b", "a", 4, key), impl.DialbackOut{Dialback: dialbackWith(4, impl.Peer{Domain: "a", Id: 3, State: impl.DbBad, Key: key})}).Dialback
	checkTrusts(t, bad, "a", 3, false)
}

func TestOpen(t *testing.T) {
	for _, d := range validDialbacks() {
		for _, from := range append(domainsOfTests(), "a", "b", long(30)) {
			if len(d.Peers) == impl.MaxPeers || d.Next == impl.MaxTime {
				checkOpen(t, d, from, impl.DialbackOut{Code: impl.ErrFull})
				continue
			}
			peers := append(slices.Clone(d.Peers), impl.Peer{Domain: from, Id: d.Next})
			checkOpen(t, d, from, impl.DialbackOut{Dialback: impl.Dialback{Domain: d.Domain, Next: d.Next + 1, Peers: peers}, Id: d.Next})
		}
		for _, from := range textsThatAreNoDomains() {
			code := int64(impl.ErrForm)
			if len(from) > impl.MaxBytes {
				code = impl.ErrSize
			}
			checkOpen(t, d, from, impl.DialbackOut{Code: code})
		}
	}
}

func TestOpenUntilFull(t *testing.T) {
	d := dialbackWith(5)
	for i := range int64(impl.MaxPeers) {
		out := impl.DbOpen(d, "a")
		if out.Code != impl.OK || out.Id != 5+i {
			t.Fatalf("DbOpen with %d peers: Id %d and code %d", i, out.Id, out.Code)
		}
		d = out.Dialback
	}
	checkOpen(t, d, "a", impl.DialbackOut{Code: impl.ErrFull})
	last := checkOpen(t, dialbackWith(impl.MaxTime-1), "a", impl.DialbackOut{Dialback: dialbackWith(impl.MaxTime, peer(impl.MaxTime-1, 0)), Id: impl.MaxTime - 1})
	checkOpen(t, last.Dialback, "a", impl.DialbackOut{Code: impl.ErrFull})
}

// changedAt returns d with another State and Key of one peer.
func changedAt(d impl.Dialback, at int, state int64, key string) impl.Dialback {
	d.Peers = slices.Clone(d.Peers)
	d.Peers[at].State = state
	d.Peers[at].Key = key
	return d
}

func TestResult(t *testing.T) {
	for _, d := range validDialbacks() {
		for at, p := range d.Peers {
			for _, key := range []string{"k", " ", "\x00", "\xff", keyOfTests, long(keyLimit - 1), long(keyLimit), strings.Repeat("\xff", keyLimit)} {
				want := impl.DialbackOut{Code: impl.ErrState}
				if p.State == 0 {
					want = impl.DialbackOut{Dialback: changedAt(d, at, impl.DbAsked, key)}
				}
				checkResult(t, d, p.Id, key, want)
			}
			for _, key := range []string{"", long(keyLimit + 1), strings.Repeat("é", keyLimit/2) + "x", long(impl.MaxBytes)} {
				checkResult(t, d, p.Id, key, impl.DialbackOut{Code: impl.ErrForm})
			}
			checkResult(t, d, p.Id, long(impl.MaxBytes+1), impl.DialbackOut{Code: impl.ErrSize})
		}
	}
}

func TestVerified(t *testing.T) {
	for _, d := range validDialbacks() {
		for at, p := range d.Peers {
			if p.State != impl.DbAsked {
				checkVerified(t, d, p.Id, true, impl.DialbackOut{Code: impl.ErrState})
				checkVerified(t, d, p.Id, false, impl.DialbackOut{Code: impl.ErrState})
				continue
			}
			checkVerified(t, d, p.Id, true, impl.DialbackOut{Dialback: changedAt(d, at, impl.DbGood, p.Key)})
			checkVerified(t, d, p.Id, false, impl.DialbackOut{Dialback: changedAt(d, at, impl.DbBad, p.Key)})
		}
	}
}

func TestUnknownPeers(t *testing.T) {
	for _, d := range []impl.Dialback{dialbackWith(9), mixedDialback(), fullDialback()} {
		for _, id := range []int64{0, -1, -2, d.Next, d.Next + 1, 11, impl.MaxTime, impl.MaxTime + 1, 1<<32 + 2, 1<<32 + 3, math.MinInt64, math.MaxInt64} {
			for _, key := range []string{"", "k", long(keyLimit), long(keyLimit + 1), long(impl.MaxBytes)} {
				checkResult(t, d, id, key, impl.DialbackOut{Code: impl.ErrNone})
			}
			checkResult(t, d, id, long(impl.MaxBytes+1), impl.DialbackOut{Code: impl.ErrSize})
			checkVerified(t, d, id, true, impl.DialbackOut{Code: impl.ErrNone})
			checkVerified(t, d, id, false, impl.DialbackOut{Code: impl.ErrNone})
			checkTrusts(t, d, "a", id, false)
		}
	}
	for _, id := range []int64{1, 4, 6, 8} {
		checkResult(t, mixedDialback(), id, "k", impl.DialbackOut{Code: impl.ErrNone})
		checkVerified(t, mixedDialback(), id, true, impl.DialbackOut{Code: impl.ErrNone})
		checkTrusts(t, mixedDialback(), "a", id, false)
	}
}

// An invalid Dialback is reported ahead of every other error but that of a size.
func TestInvalidDialbacksAreRejected(t *testing.T) {
	wrong := impl.DialbackOut{Code: impl.ErrForm}
	for _, d := range invalidDialbacks() {
		for _, from := range []string{"a", "b", "", "A", long(31)} {
			checkOpen(t, d, from, wrong)
		}
		checkOpen(t, d, long(impl.MaxBytes+1), impl.DialbackOut{Code: impl.ErrSize})
		for _, id := range []int64{-1, 0, 1, 2, 3, 9, 1000, impl.MaxTime} {
			for _, key := range []string{"", "k", long(keyLimit + 1), long(impl.MaxBytes)} {
				checkResult(t, d, id, key, wrong)
			}
			checkResult(t, d, id, long(impl.MaxBytes+1), impl.DialbackOut{Code: impl.ErrSize})
			checkVerified(t, d, id, true, wrong)
			checkVerified(t, d, id, false, wrong)
			checkTrusts(t, d, "a", id, false)
		}
	}
	full := fullDialback()
	full.Domain = "B"
	checkOpen(t, full, "a", wrong)
	checkOpen(t, dialbackWith(impl.MaxTime+1), "a", wrong)
	mixed := mixedDialback()
	mixed.Domain = ""
	for _, p := range mixed.Peers {
		checkResult(t, mixed, p.Id, "", wrong)
		checkResult(t, mixed, p.Id, "k", wrong)
		checkVerified(t, mixed, p.Id, true, wrong)
		checkTrusts(t, mixed, p.Domain, p.Id, false)
	}
}

func TestTrust(t *testing.T) {
	for _, d := range validDialbacks() {
		for _, p := range d.Peers {
			checkTrusts(t, d, p.Domain, p.Id, p.State == impl.DbGood)
			for _, from := range append(textsThatAreNoDomains(), "c", p.Domain+"x", p.Domain+".", p.Domain[1:], strings.ToUpper(p.Domain)+" ") {
				checkTrusts(t, d, from, p.Id, false)
			}
		}
	}
	two := dialbackWith(5, impl.Peer{Domain: "a", Id: 1, State: impl.DbGood, Key: "k"}, impl.Peer{Domain: "c", Id: 2, State: impl.DbGood, Key: "k"}, impl.Peer{Domain: "a", Id: 3, State: impl.DbAsked, Key: "k"})
	for _, from := range []string{"a", "b", "c"} {
		for id := int64(0); id <= 5; id++ {
			checkTrusts(t, two, from, id, from == "a" && id == 1 || from == "c" && id == 2)
		}
	}
}

// dbStep is one operation on a Dialback.
type dbStep struct {
	what string // open, result, good or bad
	from string
	id   int64
}

func dbSteps() []dbStep {
	return []dbStep{{"open", "a", 0}, {"open", "c", 0}, {"result", "", 1}, {"result", "", 2}, {"good", "", 1}, {"good", "", 2}, {"bad", "", 1}}
}

func applied(d impl.Dialback, step dbStep) impl.DialbackOut {
	switch step.what {
	case "open":
		return impl.DbOpen(d, step.from)
	case "result":
		return impl.DbResult(d, step.id, keyOfTests)
	}
	return impl.DbVerified(d, step.id, step.what == "good")
}

// trustedAfter tells from the steps alone whether a stream is trusted: it was opened by the domain, then its key was received, and the first answer behind that confirms it.
func trustedAfter(steps []dbStep, from string, id int64) bool {
	opens, state := int64(0), "none"
	for _, step := range steps {
		if step.what == "open" {
			opens++
			if opens == id && step.from == from {
				state = "open"
			}
			continue
		}
		if step.id != id {
			continue
		}
		if step.what == "result" && state == "open" || step.what != "result" && state == "result" {
			state = step.what
		}
	}
	return state == "good"
}

// Promise 12, with all sequences of six steps.
func TestTrustedAfterAllSteps(t *testing.T) {
	var walk func(d impl.Dialback, steps []dbStep)
	walk = func(d impl.Dialback, steps []dbStep) {
		for id := int64(1); id <= 2; id++ {
			for _, from := range []string{"a", "c"} {
				if got, want := impl.DbTrusts(d, from, id), trustedAfter(steps, from, id); got != want {
					t.Fatalf("after %v: the stream %d of %s is trusted is %v", steps, id, from, got)
				}
			}
		}
		if len(steps) == 6 {
			return
		}
		for _, step := range dbSteps() {
			next := d
			if out := applied(d, step); out.Code == impl.OK {
				next = out.Dialback
			}
			walk(next, append(slices.Clone(steps), step))
		}
	}
	walk(dialbackWith(1), nil)
}

// Both sides of promises 11 and 12: a stream is trusted if the server of its domain made the key for this very stream.
func TestTrustOfKeysFromServers(t *testing.T) {
	random := rand.New(rand.NewSource(6))
	secrets := []string{"of a", "of c"}
	domains := []string{"a", "c"}
	for range 300 {
		d := dialbackWith(random.Int63n(50) + 1)
		for len(d.Peers) < impl.MaxPeers {
			claimed, sender, streamOff := random.Intn(2), random.Intn(2), random.Int63n(2)
			opened := impl.DbOpen(d, domains[claimed])
			key := impl.DbKey(secrets[sender], "b", domains[claimed], opened.Id+streamOff)
			asked := impl.DbResult(opened.Dialback, opened.Id, key)
			if opened.Code != impl.OK || asked.Code != impl.OK {
				t.Fatalf("the stream %d: codes %d and %d", opened.Id, opened.Code, asked.Code)
			}
			answer := impl.DbAnswer(secrets[claimed], "b", domains[claimed], opened.Id, asked.Dialback.Peers[len(asked.Dialback.Peers)-1].Key)
			verified := impl.DbVerified(asked.Dialback, opened.Id, answer)
			if verified.Code != impl.OK {
				t.Fatalf("the stream %d: code %d", opened.Id, verified.Code)
			}
			d = verified.Dialback
			checkTrusts(t, d, domains[claimed], opened.Id, sender == claimed && streamOff == 0)
			checkTrusts(t, d, domains[1-claimed], opened.Id, false)
		}
	}
}

func sharesText(a string, b string) bool {
	return a != "" && b != "" && unsafe.StringData(a) == unsafe.StringData(b)
}

func TestDialbacksAreNotShared(t *testing.T) {
	spare := make([]impl.Peer, 4, 20)
	copy(spare, mixedDialback().Peers)
	d := impl.Dialback{Domain: strings.Clone("b.example"), Next: 9, Peers: spare}
	key := strings.Clone("a new key")
	from := strings.Clone("a.example")
	before := slices.Clone(spare[:cap(spare)])
	outs := []impl.DialbackOut{impl.DbOpen(d, from), impl.DbResult(d, 2, key), impl.DbVerified(d, 3, true), impl.DbVerified(d, 3, false)}
	for i, out := range outs {
		if out.Code != impl.OK {
			t.Fatalf("call %d: code %d", i, out.Code)
		}
		if sharesText(out.Dialback.Domain, d.Domain) {
			t.Errorf("call %d: the Domain is shared", i)
		}
		for at, p := range out.Dialback.Peers {
			if sharesText(p.Domain, from) || sharesText(p.Key, key) || at < len(d.Peers) && (sharesText(p.Domain, d.Peers[at].Domain) || sharesText(p.Key, d.Peers[at].Key)) {
				t.Errorf("call %d: a text of peer %d is shared", i, at)
			}
			out.Dialback.Peers[at] = impl.Peer{}
		}
	}
	if !slices.Equal(spare[:cap(spare)], before) {
		t.Errorf("the peers are changed: %v", spare[:cap(spare)])
	}
}
