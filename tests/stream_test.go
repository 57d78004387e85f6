package tests

import (
	"fmt"
	"math"
	"reflect"
	"regexp"
	"slices"
	"strconv"
	"strings"
	"testing"

	"loop.example/g00387/impl"
)

const (
	headOfTests  = "<stream from='a' to='b' id='7'>"
	closeOfTests = "</stream>"
	restLimit    = 4000
)

func head() impl.Head {
	return impl.Head{From: "a", To: "b", Id: 7}
}

func longestHead() impl.Head {
	return impl.Head{From: long(30), To: long(30), Id: impl.MaxTime}
}

func openStream() impl.Stream {
	return impl.Stream{Head: head(), Open: true}
}

func openWith(rest string) impl.Stream {
	return impl.Stream{Head: head(), Rest: rest, Open: true}
}

func closedStream() impl.Stream {
	return impl.Stream{Head: head(), Open: true, Closed: true}
}

// dead returns s as it is after a line that makes it Dead.
func dead(s impl.Stream) impl.Stream {
	s.Rest = ""
	s.Dead = true
	return s
}

func deadStreams() []impl.Stream {
	return []impl.Stream{dead(impl.Stream{}), dead(openStream()), dead(closedStream())}
}

func lines(list ...string) string {
	return strings.Join(list, "\n") + "\n"
}

func iqs(ids ...int64) []impl.Stanza {
	var list []impl.Stanza
	for _, id := range ids {
		list = append(list, impl.Stanza{Kind: "iq", Id: id})
	}
	return list
}

func textsThatAreNoDomains() []string {
	return []string{"", " ", "A", "aB", "ann@a", "@a", "a@", "a/x", "a/", "/", ".a", "a.", "-a", "a-", "a..b", "a_b", "a b", " a", "a ", "a'", "'", "<", "a\n", "\n", "é", "a\x00", "a\xff",
		long(31), long(impl.MaxBytes + 1)}
}

func validHeads() []impl.Head {
	var list []impl.Head
	for _, from := range domainsOfTests() {
		for _, to := range domainsOfTests() {
			for _, id := range []int64{1, 2, 7, 10, 100, impl.MaxTime - 1, impl.MaxTime} {
				list = append(list, impl.Head{From: from, To: to, Id: id})
			}
		}
	}
	return list
}

func invalidHeads() []impl.Head {
	list := []impl.Head{{}, {Id: 7}, {From: "a", To: "b"}}
	for _, text := range textsThatAreNoDomains() {
		list = append(list, impl.Head{From: text, To: "b", Id: 7}, impl.Head{From: "a", To: text, Id: 7}, impl.Head{From: text, To: text, Id: 7})
	}
	for _, id := range []int64{0, -1, -7, math.MinInt64, impl.MaxTime + 1, impl.MaxTime + 7, 1<<32 + 7, math.MaxInt64} {
		list = append(list, impl.Head{From: "a", To: "b", Id: id})
	}
	return list
}

func validStreams() []impl.Stream {
	list := append(deadStreams(), closedStream(), impl.Stream{}, openStream(), openWith("<iq"), openWith(closeOfTests), impl.Stream{Rest: "<stream"})
	for _, rest := range []string{"x", " ", "\r", "\x00", "\xff", "é", "\u2028", "\x0b", long(restLimit - 1), long(restLimit), strings.Repeat("\xff", restLimit)} {
		list = append(list, openWith(rest), impl.Stream{Rest: rest})
	}
	return list
}

func invalidStreams() []impl.Stream {
	list := []impl.Stream{
		{Closed: true},
		{Closed: true, Dead: true},
		{Head: head(), Closed: true},
		{Head: head()},
		{Head: head(), Dead: true},
		{Head: impl.Head{From: "a"}},
		{Head: impl.Head{To: "b"}},
		{Head: impl.Head{Id: 7}},
		{Rest: "x", Dead: true},
		{Head: head(), Rest: "x", Open: true, Closed: true},
		{Head: head(), Rest: "x", Open: true, Dead: true},
		{Head: head(), Rest: "x", Open: true, Closed: true, Dead: true},
		{Rest: "x", Closed: true},
	}
	for _, h := range invalidHeads() {
		list = append(list, impl.Stream{Head: h, Open: true}, impl.Stream{Head: h, Open: true, Closed: true}, impl.Stream{Head: h, Open: true, Dead: true})
	}
	rests := []string{"\n", "a\n", "\na", "<iq/>\n", long(restLimit-1) + "\n", long(restLimit + 1), strings.Repeat("é", restLimit/2) + "x", long(impl.MaxBytes), long(impl.MaxBytes + 1)}
	for _, rest := range rests {
		list = append(list, openWith(rest), impl.Stream{Rest: rest}, impl.Stream{Rest: rest, Dead: true})
	}
	return list
}

func shown(s impl.Stream) string {
	return fmt.Sprintf("{%.60q %.60q %d, Rest %.100q of %d bytes, Open %v, Closed %v, Dead %v}", s.Head.From, s.Head.To, s.Head.Id, s.Rest, len(s.Rest), s.Open, s.Closed, s.Dead)
}

func shownStanzas(list []impl.Stanza) string {
	return fmt.Sprintf("%d stanzas, at first %.60v", len(list), list[:min(len(list), 5)])
}

func checkFeed(t *testing.T, s impl.Stream, text string, want impl.StreamOut) impl.StreamOut {
	t.Helper()
	got := impl.StreamFeed(s, text)
	if got.Stream != want.Stream || got.Code != want.Code {
		t.Errorf("StreamFeed(%s, %.200q) = %s with code %d, want %s with code %d", shown(s), text, shown(got.Stream), got.Code, shown(want.Stream), want.Code)
	}
	if !slices.Equal(got.Stanzas, want.Stanzas) {
		t.Errorf("StreamFeed(%s, %.200q) yields %s, want %s", shown(s), text, shownStanzas(got.Stanzas), shownStanzas(want.Stanzas))
	}
	if got.Code == impl.OK && !impl.StreamRight(got.Stream) {
		t.Errorf("StreamFeed(%s, %.200q) yields an invalid stream", shown(s), text)
	}
	return got
}

func TestHeadTexts(t *testing.T) {
	cases := []struct {
		h    impl.Head
		want string
	}{
		{head(), headOfTests},
		{impl.Head{From: "a", To: "a", Id: 1}, "<stream from='a' to='a' id='1'>"},
		{impl.Head{From: "b.c-d", To: "0", Id: impl.MaxTime}, "<stream from='b.c-d' to='0' id='1000000000'>"},
		{longestHead(), "<stream from='" + long(30) + "' to='" + long(30) + "' id='1000000000'>"},
	}
	for _, c := range cases {
		if got := impl.HeadText(c.h); got != c.want {
			t.Errorf("HeadText(%v) = %q, want %q", c.h, got, c.want)
		}
	}
	for _, h := range validHeads() {
		want := "<stream from='" + h.From + "' to='" + h.To + "' id='" + strconv.FormatInt(h.Id, 10) + "'>"
		if got := impl.HeadText(h); got != want {
			t.Errorf("HeadText(%v) = %q, want %q", h, got, want)
		}
	}
	for _, h := range invalidHeads() {
		if got := impl.HeadText(h); got != "" {
			t.Errorf("HeadText of %.60q, %.60q and %d is %.200q, want none", h.From, h.To, h.Id, got)
		}
	}
}

func TestIdsOfHeads(t *testing.T) {
	for _, id := range numbers() {
		for _, near := range []int64{id, impl.MaxTime + id} {
			h := impl.Head{From: "a", To: "b", Id: near}
			right := near >= 1 && near <= impl.MaxTime
			if got := impl.HeadText(h) != ""; got != right {
				t.Errorf("a head with Id %d: valid is %v", near, got)
			}
			if got := impl.StreamRight(impl.Stream{Head: h, Open: true}); got != right {
				t.Errorf("a stream whose head has Id %d: valid is %v", near, got)
			}
		}
	}
}

func TestValidStreams(t *testing.T) {
	for _, s := range validStreams() {
		if !impl.StreamRight(s) {
			t.Errorf("%s is not valid", shown(s))
		}
	}
	for _, h := range validHeads() {
		if !impl.StreamRight(impl.Stream{Head: h, Open: true}) {
			t.Errorf("a stream with the head %v is not valid", h)
		}
	}
	for _, s := range invalidStreams() {
		if impl.StreamRight(s) {
			t.Errorf("%s is valid", shown(s))
		}
	}
}

// All combinations of the flags with a head or without one, and with a Rest or without one.
func TestFlagsOfStreams(t *testing.T) {
	for flags := range 32 {
		s := impl.Stream{Open: flags&1 != 0, Closed: flags&2 != 0, Dead: flags&4 != 0}
		if flags&8 != 0 {
			s.Head = head()
		}
		if flags&16 != 0 {
			s.Rest = "<iq"
		}
		hasHead, hasRest := flags&8 != 0, flags&16 != 0
		want := s.Open == hasHead && !(s.Closed && !s.Open) && !(hasRest && (s.Closed || s.Dead))
		if got := impl.StreamRight(s); got != want {
			t.Errorf("%s: valid is %v", shown(s), got)
		}
	}
}

func TestSizesOfRests(t *testing.T) {
	for _, size := range []int{0, 1, restLimit - 1, restLimit, restLimit + 1, restLimit + 2, impl.MaxBytes, impl.MaxBytes + 1} {
		for _, s := range []impl.Stream{openWith(long(size)), {Rest: long(size)}} {
			if got := impl.StreamRight(s); got != (size <= restLimit) {
				t.Errorf("a Rest of %d bytes: valid is %v", size, got)
			}
		}
	}
}

func TestBytesOfRests(t *testing.T) {
	for b := range 256 {
		one := string([]byte{byte(b)})
		for _, rest := range []string{one, "a" + one, one + "a", long(restLimit-1) + one} {
			if got := impl.StreamRight(openWith(rest)); got != (b != 10) {
				t.Errorf("a Rest with the byte %d: valid is %v", b, got)
			}
		}
	}
}

func TestStreamExamples(t *testing.T) {
	first := checkFeed(t, impl.Stream{}, headOfTests+"\n\n<iq/>\n<iq", impl.StreamOut{Stream: openWith("<iq"), Stanzas: iqs(0)})
	second := checkFeed(t, first.Stream, " id='3'/>\n</stream>\n", impl.StreamOut{Stream: closedStream(), Stanzas: iqs(3)})
	third := checkFeed(t, second.Stream, "<iq/>\n", impl.StreamOut{Stream: dead(closedStream())})
	checkFeed(t, third.Stream, "", impl.StreamOut{Code: impl.ErrClosed})
	checkFeed(t, impl.Stream{}, "x\n", impl.StreamOut{Stream: dead(impl.Stream{})})
}

func TestNothingIsFed(t *testing.T) {
	for _, s := range []impl.Stream{{}, {Rest: "<str"}, openStream(), openWith("<iq/>"), openWith(long(restLimit)), closedStream()} {
		checkFeed(t, s, "", impl.StreamOut{Stream: s})
	}
}

func TestEveryHeadOpens(t *testing.T) {
	for _, h := range append(validHeads(), longestHead()) {
		checkFeed(t, impl.Stream{}, impl.HeadText(h)+"\n", impl.StreamOut{Stream: impl.Stream{Head: h, Open: true}})
	}
	checkFeed(t, impl.Stream{}, headOfTests, impl.StreamOut{Stream: impl.Stream{Rest: headOfTests}})
	checkFeed(t, impl.Stream{Rest: headOfTests}, "\n", impl.StreamOut{Stream: openStream()})
}

func TestEveryStanzaIsReturned(t *testing.T) {
	stanzas := validStanzas()
	for from := 0; from < len(stanzas); from += 5 {
		few := stanzas[from:min(from+5, len(stanzas))]
		var text strings.Builder
		for _, s := range few {
			text.WriteString(impl.StanzaText(s) + "\n")
		}
		checkFeed(t, openStream(), text.String(), impl.StreamOut{Stream: openStream(), Stanzas: few})
	}
}

func TestEmptyLinesAreIgnored(t *testing.T) {
	for _, empty := range []string{"", "\n", "\n\n", strings.Repeat("\n", 5000)} {
		checkFeed(t, impl.Stream{}, empty, impl.StreamOut{})
		checkFeed(t, impl.Stream{}, empty+headOfTests+"\n"+empty, impl.StreamOut{Stream: openStream()})
		checkFeed(t, impl.Stream{}, empty+"<str", impl.StreamOut{Stream: impl.Stream{Rest: "<str"}})
		checkFeed(t, openStream(), empty+"<iq id='1'/>\n"+empty+"<iq id='2'/>\n"+empty, impl.StreamOut{Stream: openStream(), Stanzas: iqs(1, 2)})
		checkFeed(t, openStream(), empty+closeOfTests+"\n"+empty, impl.StreamOut{Stream: closedStream()})
		checkFeed(t, closedStream(), empty, impl.StreamOut{Stream: closedStream()})
	}
	checkFeed(t, openStream(), strings.Repeat("\n", impl.MaxBytes), impl.StreamOut{Stream: openStream()})
}

// A line that is not empty is not ignored, even if nothing of it can be seen.
func TestLinesOfBlanks(t *testing.T) {
	for _, line := range []string{" ", "\t", "\r", "\x00", "\x0b", "\x0c", "\u2028", "\ufeff"} {
		checkFeed(t, impl.Stream{}, line+"\n"+headOfTests+"\n", impl.StreamOut{Stream: dead(impl.Stream{})})
		checkFeed(t, openStream(), lines("<iq id='1'/>", line, "<iq id='2'/>"), impl.StreamOut{Stream: dead(openStream()), Stanzas: iqs(1)})
		checkFeed(t, closedStream(), line+"\n", impl.StreamOut{Stream: dead(closedStream())})
		checkFeed(t, openStream(), "<iq/>"+line+"\n", impl.StreamOut{Stream: dead(openStream())})
	}
}

func TestFirstLineThatIsNoHead(t *testing.T) {
	texts := []string{"x", "<iq/>", closeOfTests, "<stream>", "<stream/>", "<stream from='a' to='b' id='7'/>", headOfTests + " ", " " + headOfTests, headOfTests + headOfTests, headOfTests + closeOfTests, headOfTests + "<iq/>", headOfTests + "\r",
		"<Stream from='a' to='b' id='7'>", "<stream to='b' from='a' id='7'>", "<stream from='a' to='b'>", "<stream from='a' id='7'>", "<stream to='b' id='7'>", "<stream from=\"a\" to=\"b\" id=\"7\">", "<stream  from='a' to='b' id='7'>", "<stream from='a'to='b' id='7'>",
		"<stream from='a' to='b' id='7' >", "<stream from='a' to='b' id='7'> ", "<stream from='a' to='b' id='7'", "stream from='a' to='b' id='7'>", "<stream from='a' to='b' id='7' x='y'>", "<stream from='a' from='a' to='b' id='7'>",
		"''''''", "'a'b'7'", "'a''b''7'", "'a' to='b' id='7'>", "<stream from='a' to='b' id=7>", long(restLimit), long(restLimit + 1)}
	for _, text := range textsThatAreNoDomains() {
		if len(text) < 100 {
			texts = append(texts, "<stream from='"+text+"' to='b' id='7'>", "<stream from='a' to='"+text+"' id='7'>")
		}
	}
	for _, id := range []string{"", "0", "-1", "-7", "+7", "07", "007", " 7", "7 ", "7.0", "0x7", "7_0", "1_0", "a", "7a", "1000000001", "01000000000", "9223372036854775807", "9223372036854775808", "18446744073709551623", "4294967303", "\xd9\xa7"} {
		texts = append(texts, "<stream from='a' to='b' id='"+id+"'>")
	}
	for _, text := range texts {
		checkFeed(t, impl.Stream{}, text+"\n", impl.StreamOut{Stream: dead(impl.Stream{})})
		checkFeed(t, impl.Stream{}, lines("", text, headOfTests, "<iq/>"), impl.StreamOut{Stream: dead(impl.Stream{})})
	}
	checkFeed(t, impl.Stream{}, long(impl.MaxBytes-1)+"\n", impl.StreamOut{Stream: dead(impl.Stream{})})
}

func TestSecondHead(t *testing.T) {
	for _, h := range []impl.Head{head(), {From: "b", To: "a", Id: 8}} {
		text := impl.HeadText(h)
		checkFeed(t, openStream(), text+"\n", impl.StreamOut{Stream: dead(openStream())})
		checkFeed(t, impl.Stream{}, lines(headOfTests, text), impl.StreamOut{Stream: dead(openStream())})
		checkFeed(t, impl.Stream{}, lines(headOfTests, "<iq/>", text, "<iq/>"), impl.StreamOut{Stream: dead(openStream()), Stanzas: iqs(0)})
		checkFeed(t, closedStream(), text+"\n", impl.StreamOut{Stream: dead(closedStream())})
		checkFeed(t, openStream(), text, impl.StreamOut{Stream: openWith(text)})
	}
}

func TestLineThatIsNoStanza(t *testing.T) {
	texts := []string{"x", "<iq", "<iq>", "<iq></iq>", " <iq/>", "<iq/> ", "<iq/>\r", "<iq/><iq/>", "<stream/>", "<stream>", "</stream", "</stream >", " </stream>", "</stream> ", "</stream>\r", "</stream></stream>", "</Stream>", "</iq>", "<iq/></stream>", "<error/>",
		"<iq id='0'/>", "<iq from='ANN@a'/>", "<iq>&x;</iq>", "<message>é</message>", "\xff", "<iq>" + long(401) + "</iq>", long(restLimit), long(restLimit + 1), long(10000)}
	for _, text := range texts {
		checkFeed(t, openStream(), text+"\n", impl.StreamOut{Stream: dead(openStream())})
		checkFeed(t, openStream(), lines("<iq id='1'/>", "", "<iq id='2'/>", text), impl.StreamOut{Stream: dead(openStream()), Stanzas: iqs(1, 2)})
		checkFeed(t, openStream(), lines("<iq id='1'/>", text, "<iq id='2'/>", closeOfTests)+"<iq", impl.StreamOut{Stream: dead(openStream()), Stanzas: iqs(1)})
		checkFeed(t, impl.Stream{}, lines(headOfTests, "<iq id='1'/>", text), impl.StreamOut{Stream: dead(openStream()), Stanzas: iqs(1)})
	}
}

func TestClose(t *testing.T) {
	cases := []struct {
		text string
		want impl.Stream
	}{
		{closeOfTests, openWith(closeOfTests)},
		{closeOfTests + "\n", closedStream()},
		{closeOfTests + "\n\n", closedStream()},
		{closeOfTests + "\nx", closedStream()},
		{closeOfTests + "\n<iq/>", closedStream()},
		{closeOfTests + "\n\n\n<iq", closedStream()},
		{closeOfTests + "\n" + closeOfTests, closedStream()},
		{closeOfTests + "\nx\n", dead(closedStream())},
		{closeOfTests + "\n<iq/>\n", dead(closedStream())},
		{closeOfTests + "\n\n<iq/>\n", dead(closedStream())},
		{closeOfTests + "\n<iq/>\n<iq/>\n<iq", dead(closedStream())},
		{closeOfTests + "\n" + closeOfTests + "\n", dead(closedStream())},
		{closeOfTests + "\n" + headOfTests + "\n", dead(closedStream())},
	}
	for _, c := range cases {
		checkFeed(t, openStream(), c.text, impl.StreamOut{Stream: c.want})
		checkFeed(t, impl.Stream{}, headOfTests+"\n"+c.text, impl.StreamOut{Stream: c.want})
		checkFeed(t, openStream(), lines("<iq id='1'/>", "<iq id='2'/>")+c.text, impl.StreamOut{Stream: c.want, Stanzas: iqs(1, 2)})
	}
}

func TestBytesBehindTheLastLine(t *testing.T) {
	for _, size := range []int{0, 1, restLimit - 1, restLimit, restLimit + 1, restLimit + 2, 10000} {
		rest := long(size)
		unopened, open := impl.Stream{Rest: rest}, openWith(rest)
		if size > restLimit {
			unopened, open = dead(unopened), dead(open)
		}
		checkFeed(t, impl.Stream{}, rest, impl.StreamOut{Stream: unopened})
		checkFeed(t, impl.Stream{}, "\n"+rest, impl.StreamOut{Stream: unopened})
		checkFeed(t, impl.Stream{}, headOfTests+"\n"+rest, impl.StreamOut{Stream: open})
		checkFeed(t, openStream(), rest, impl.StreamOut{Stream: open})
		checkFeed(t, openStream(), lines("<iq id='1'/>", "<iq id='2'/>")+rest, impl.StreamOut{Stream: open, Stanzas: iqs(1, 2)})
		for _, before := range []int{1, size / 2, size - 1, size} {
			if before >= 0 && before <= min(size, restLimit) {
				checkFeed(t, openWith(rest[:before]), rest[before:], impl.StreamOut{Stream: open})
				checkFeed(t, impl.Stream{Rest: rest[:before]}, rest[before:], impl.StreamOut{Stream: unopened})
			}
		}
		checkFeed(t, closedStream(), rest, impl.StreamOut{Stream: closedStream()})
		checkFeed(t, closedStream(), "\n"+rest, impl.StreamOut{Stream: closedStream()})
		checkFeed(t, openStream(), lines("<iq id='1'/>", closeOfTests)+rest, impl.StreamOut{Stream: closedStream(), Stanzas: iqs(1)})
		checkFeed(t, openStream(), lines(closeOfTests, "x")+rest, impl.StreamOut{Stream: dead(closedStream())})
	}
}

// The limit of a Rest is about what has no end yet; a text may have many more bytes ahead of it.
func TestLongTexts(t *testing.T) {
	text := strings.Repeat("<iq/>\n", impl.MaxBytes/6)
	want := make([]impl.Stanza, impl.MaxBytes/6)
	for i := range want {
		want[i] = impl.Stanza{Kind: "iq"}
	}
	checkFeed(t, openStream(), text, impl.StreamOut{Stream: openStream(), Stanzas: want})
	checkFeed(t, openWith("<"), text[1:], impl.StreamOut{Stream: openStream(), Stanzas: want})
	checkFeed(t, openWith("<iq/>"), "\n"+text[6:], impl.StreamOut{Stream: openStream(), Stanzas: want})

	longest := impl.Stanza{Kind: "presence", Type: long(20), From: longestAddress(), To: longestAddress(), Id: impl.MaxTime, Body: strings.Repeat("'", 400)}
	rest := impl.StanzaText(longest)
	behind := "\n" + text[:impl.MaxBytes/6*6-6]
	checkFeed(t, openWith(rest), behind, impl.StreamOut{Stream: openStream(), Stanzas: append([]impl.Stanza{longest}, want[1:]...)})
	checkFeed(t, openWith(long(restLimit)), behind, impl.StreamOut{Stream: dead(openStream())})
}

var headForm = regexp.MustCompile(`^<stream from='([^']+)' to='([^']+)' id='([1-9][0-9]{0,9})'>$`)

func referenceDomain(text string) bool {
	read := referenceRead(text)
	return read.Code == impl.OK && read.Jid == jid("", text, "")
}

func referenceHead(text string) (impl.Head, bool) {
	found := headForm.FindStringSubmatch(text)
	if found == nil || !referenceDomain(found[1]) || !referenceDomain(found[2]) {
		return impl.Head{}, false
	}
	id, _ := strconv.Atoi(found[3])
	return impl.Head{From: found[1], To: found[2], Id: int64(id)}, id <= impl.MaxTime
}

// referenceFeed feeds a valid stream line by line, with regular expressions.
func referenceFeed(s impl.Stream, text string) impl.StreamOut {
	if s.Dead {
		return impl.StreamOut{Code: impl.ErrClosed}
	}
	out := impl.StreamOut{Stream: s}
	left := s.Rest + text
	for strings.Contains(left, "\n") {
		end := strings.IndexByte(left, 10)
		line := left[:end]
		left = left[end+1:]
		stanza := referenceStanza(line)
		head, isHead := referenceHead(line)
		switch {
		case line == "":
		case !out.Stream.Open && isHead:
			out.Stream.Open = true
			out.Stream.Head = head
		case out.Stream.Open && !out.Stream.Closed && line == closeOfTests:
			out.Stream.Closed = true
		case out.Stream.Open && !out.Stream.Closed && stanza.Code == impl.OK:
			out.Stanzas = append(out.Stanzas, stanza.Stanza)
		default:
			out.Stream = dead(out.Stream)
			return out
		}
	}
	out.Stream.Rest = left
	if out.Stream.Closed {
		out.Stream.Rest = ""
	}
	if len(out.Stream.Rest) > restLimit {
		out.Stream = dead(out.Stream)
	}
	return out
}

func TestChangedHeadsAreReadAsByTheReference(t *testing.T) {
	for _, text := range []string{headOfTests, "<stream from='a.b' to='c-d' id='10'>"} {
		for b := range 256 {
			one := string([]byte{byte(b)})
			for at := range len(text) {
				changed := text[:at] + one + text[at+1:] + "\n"
				checkFeed(t, impl.Stream{}, changed, referenceFeed(impl.Stream{}, changed))
				inserted := text[:at] + one + text[at:] + "\n"
				checkFeed(t, impl.Stream{}, inserted, referenceFeed(impl.Stream{}, inserted))
			}
		}
		for from := range len(text) {
			for to := from + 1; to <= len(text); to++ {
				without := text[:from] + text[to:] + "\n"
				checkFeed(t, impl.Stream{}, without, referenceFeed(impl.Stream{}, without))
				twice := text[:to] + text[from:] + "\n"
				checkFeed(t, impl.Stream{}, twice, referenceFeed(impl.Stream{}, twice))
			}
		}
	}
}

// streamTexts returns all sequences of up to the given number of lines and pieces of lines.
func streamTexts(most int) []string {
	pieces := []string{"\n", "x", headOfTests + "\n", "<iq id='4'/>\n", "<message>a&lt;b</message>\n", closeOfTests + "\n", "<iq", "/>"}
	all := []string{""}
	last := all
	for range most {
		var longer []string
		for _, text := range last {
			for _, piece := range pieces {
				longer = append(longer, text+piece)
			}
		}
		all = append(all, longer...)
		last = longer
	}
	return all
}

func TestSequencesOfLinesAreFedAsByTheReference(t *testing.T) {
	starts := []impl.Stream{{}, {Rest: "<stream from='a' to='b' id='7'>"}, {Rest: "x"}, openStream(), openWith("<iq"), openWith(closeOfTests), openWith(long(restLimit)), closedStream(), dead(openStream())}
	for _, text := range streamTexts(4) {
		for _, s := range starts {
			checkFeed(t, s, text, referenceFeed(s, text))
		}
	}
}

// checkParts feeds the parts one behind the other; all of them together yield the stanzas of the whole text.
func checkParts(t *testing.T, s impl.Stream, parts ...string) {
	t.Helper()
	var stanzas []impl.Stanza
	now := s
	for _, part := range parts {
		out := impl.StreamFeed(now, part)
		if now.Dead {
			if out.Code != impl.ErrClosed || out.Stanzas != nil {
				t.Errorf("a Dead stream yields the code %d and %d stanzas", out.Code, len(out.Stanzas))
			}
			break
		}
		if want := referenceFeed(now, part); out.Stream != want.Stream || out.Code != impl.OK {
			t.Errorf("in parts %.200q, StreamFeed(%s, %.200q) = %s with code %d, want %s", parts, shown(now), part, shown(out.Stream), out.Code, shown(want.Stream))
		}
		stanzas = append(stanzas, out.Stanzas...)
		now = out.Stream
	}
	whole := impl.StreamFeed(s, strings.Join(parts, ""))
	if !slices.Equal(stanzas, whole.Stanzas) {
		t.Errorf("in parts %.200q a stream yields %s, at once %s", parts, shownStanzas(stanzas), shownStanzas(whole.Stanzas))
	}
	// Only what is dropped behind a close can tell the parts from the whole.
	if !whole.Stream.Closed && now != whole.Stream {
		t.Errorf("in parts %.200q a stream becomes %s, at once %s", parts, shown(now), shown(whole.Stream))
	}
	if whole.Stream.Closed && !now.Closed {
		t.Errorf("in parts %.200q a stream is not closed", parts)
	}
}

func dividedTexts() []string {
	return []string{
		headOfTests + "\n\n<iq/>\n<iq id='3'/>\n</stream>\n",
		"\n\n" + headOfTests + "\n" + chatText + "\n\n\n<presence/>\n<db type='result' from='a' to='b' id='1'>key</db>\n<iq",
		headOfTests + "\n<iq id='1'/>\n</stream>\n\n<iq id='2'/>\n",
		headOfTests + "\n<iq id='1'/>\n</stream>\nrest",
		headOfTests + "\n<iq id='1'/>\nx\n<iq id='2'/>\n",
		headOfTests + "\n<iq id='1'/>\n" + headOfTests + "\n<iq id='2'/>\n",
		headOfTests + "\n<message>\xff</message>\n<iq/>\n",
		"<iq/>\n" + headOfTests + "\n<iq/>\n",
		closeOfTests + "\n<iq/>\n",
		headOfTests + closeOfTests,
		"",
	}
}

// Promise 9, for every place at which a text can be divided, and for three parts.
func TestTextInParts(t *testing.T) {
	for _, text := range dividedTexts() {
		for _, s := range []impl.Stream{{}, openStream(), openWith("<iq/>"), closedStream()} {
			for at := range len(text) + 1 {
				checkParts(t, s, text[:at], text[at:])
			}
			for first := 0; first <= len(text); first += 3 {
				for second := first; second <= len(text); second += 2 {
					checkParts(t, s, text[:first], text[first:second], text[second:])
				}
			}
			checkParts(t, s, strings.Split(text, "")...)
		}
	}
	for _, text := range streamTexts(3) {
		for at := range len(text) + 1 {
			checkParts(t, impl.Stream{}, headOfTests+"\n"+text[:at], text[at:])
		}
	}
}

// Promise 9, for a long text with the longest lines, divided at every fifth place.
func TestLongTextInParts(t *testing.T) {
	longest := impl.StanzaText(impl.Stanza{Kind: "presence", Type: long(20), From: longestAddress(), To: longestAddress(), Id: impl.MaxTime, Body: strings.Repeat("'", 400)})
	text := lines(headOfTests, "<iq id='1'/>", longest, "<iq id='2'/>", longest, closeOfTests)
	for at := 0; at <= len(text); at += 5 {
		checkParts(t, impl.Stream{}, text[:at], text[at:])
	}
}

// Promise 9, around the limit of a Rest: a line that is too long for it is no stanza when it arrives at once, either.
func TestLongLineInParts(t *testing.T) {
	for _, size := range []int{restLimit - 1, restLimit, restLimit + 1, 9000} {
		for _, end := range []string{"", "\n", "\n<iq id='2'/>\n"} {
			text := lines(headOfTests, "<iq id='1'/>") + long(size) + end
			for _, at := range []int{0, 20, 40, 50, restLimit, restLimit + 43, restLimit + 44, restLimit + 45, restLimit + 46, restLimit + 47, len(text) - 1, len(text)} {
				at = min(at, len(text))
				checkParts(t, impl.Stream{}, text[:at], text[at:])
			}
		}
	}
}

// Promise 10: a dead stream.
func TestDeadStreamAcceptsNothing(t *testing.T) {
	for _, s := range deadStreams() {
		for _, text := range append(streamTexts(2), "<iq/>\n", headOfTests+"\n", closeOfTests+"\n", long(restLimit+1), long(impl.MaxBytes)) {
			checkFeed(t, s, text, impl.StreamOut{Code: impl.ErrClosed})
		}
	}
	for _, text := range []string{"x\n", "<iq/>\n", long(restLimit + 1), lines(headOfTests, "x"), lines(headOfTests, closeOfTests, "x"), headOfTests + "\n" + long(restLimit+1)} {
		s := impl.StreamFeed(impl.Stream{}, text).Stream
		if !s.Dead {
			t.Errorf("after %.200q a stream is not Dead", text)
		}
		checkFeed(t, s, "<iq/>\n", impl.StreamOut{Code: impl.ErrClosed})
	}
}

// Promise 10: a closed stream.
func TestClosedStreamYieldsNothing(t *testing.T) {
	for _, text := range append(streamTexts(4), chatText+"\n", long(impl.MaxBytes), strings.Repeat("\n", impl.MaxBytes)) {
		out := impl.StreamFeed(closedStream(), text)
		if len(out.Stanzas) != 0 || !out.Stream.Closed || out.Stream.Head != head() || out.Stream.Rest != "" || out.Code != impl.OK {
			t.Errorf("a closed stream with %.200q becomes %s with code %d and yields %s", text, shown(out.Stream), out.Code, shownStanzas(out.Stanzas))
		}
		ahead := impl.StreamFeed(openStream(), lines("<iq id='1'/>", closeOfTests)+text[:min(len(text), 1000)])
		if !slices.Equal(ahead.Stanzas, iqs(1)) {
			t.Errorf("with %.200q behind its close a stream yields %s", text, shownStanzas(ahead.Stanzas))
		}
	}
}

func TestInvalidStreamsAreNotFed(t *testing.T) {
	for _, s := range invalidStreams() {
		for _, text := range []string{"", "\n", "x", "x\n", "<iq/>\n", headOfTests + "\n", closeOfTests + "\n", long(impl.MaxBytes)} {
			checkFeed(t, s, text, impl.StreamOut{Code: impl.ErrForm})
		}
	}
}

func TestStreamFeedSize(t *testing.T) {
	for _, s := range append(validStreams(), invalidStreams()...) {
		for _, text := range []string{long(impl.MaxBytes + 1), strings.Repeat("\n", impl.MaxBytes+1), headOfTests + "\n" + strings.Repeat("\n", impl.MaxBytes)} {
			checkFeed(t, s, text, impl.StreamOut{Code: impl.ErrSize})
		}
	}
	checkFeed(t, openWith(long(restLimit)), strings.Repeat("\n", impl.MaxBytes), impl.StreamOut{Stream: dead(openStream())})
	checkFeed(t, openWith("<iq/>"), strings.Repeat("\n", impl.MaxBytes), impl.StreamOut{Stream: openStream(), Stanzas: iqs(0)})
}

// What one call returned does not change with the next one.
func TestFeedsAreIndependent(t *testing.T) {
	first := impl.StreamFeed(impl.Stream{}, lines(headOfTests, "<iq id='1'/>", "<iq id='2'/>")+"<iq")
	second := impl.StreamFeed(impl.Stream{}, lines(headOfTests, "<iq id='1'/>", "<iq id='2'/>")+"<iq")
	if !reflect.DeepEqual(first, second) {
		t.Errorf("the same call returned %v and %v", first, second)
	}
	first.Stanzas[0].Id = 9
	impl.StreamFeed(first.Stream, " id='8'/>\n")
	if !slices.Equal(second.Stanzas, iqs(1, 2)) || second.Stream != openWith("<iq") {
		t.Errorf("an earlier result became %v", second)
	}
}
