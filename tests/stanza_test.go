package tests

import (
	"math"
	"regexp"
	"strconv"
	"strings"
	"testing"

	"loop.example/g00387/impl"
)

const markup = "&<>'\""

var kindsOfTests = []string{"presence", "message", "iq", "db"}

func chat() impl.Stanza {
	return impl.Stanza{Kind: "message", Type: "chat", From: "ann@a", To: "bob@b/x", Id: 5, Body: "a<b"}
}

const chatText = "<message type='chat' from='ann@a' to='bob@b/x' id='5'>a&lt;b</message>"

func printableBytes() string {
	var buf []byte
	for b := 32; b <= 126; b++ {
		buf = append(buf, byte(b))
	}
	return string(buf)
}

func longestAddress() string {
	return long(30) + "@" + long(30) + "/" + long(30)
}

func addressesOfTests() []string {
	return []string{"", "a", "ann@a", "a.b/Home", "bob@b/x=y", "a/=", "a/@:;", longestAddress()}
}

func bodiesOfTests() []string {
	return []string{"", "x", " ", "a<b", markup, "&lt;", "&amp;lt;", ";", "/>", "</message>", "<iq/>", "a='b'", "]]>", printableBytes(),
		long(400), strings.Repeat("\"", 400), strings.Repeat(" ", 400)}
}

// validStanzas returns all combinations of some fields.
func validStanzas() []impl.Stanza {
	var list []impl.Stanza
	for _, kind := range kindsOfTests {
		for _, typ := range []string{"", "a", "error", "a_9", long(20)} {
			for _, from := range addressesOfTests() {
				for _, to := range addressesOfTests() {
					for _, id := range []int64{0, 1, 10, impl.MaxTime} {
						for _, body := range bodiesOfTests() {
							list = append(list, impl.Stanza{Kind: kind, Type: typ, From: from, To: to, Id: id, Body: body})
						}
					}
				}
			}
		}
	}
	return list
}

func textsThatAreNoAddresses() []string {
	return []string{" ", "@a", "a@", "a/", "@", "/", ".a", "a..b", "a b", "a/x y", "ANN@a", "ann@A", "A", "A/x", "a/x/y", "a'", "a/'", "a/<", "a/>",
		"a/&", "a/\"", "a/&lt;", "a\n", "é@a", "a/é", long(31), long(impl.MaxBytes), long(impl.MaxBytes + 1)}
}

// changedChats returns the example with one field changed by change, for each of the values.
func changedChats(values []string, change func(s *impl.Stanza, value string)) []impl.Stanza {
	var list []impl.Stanza
	for _, value := range values {
		s := chat()
		change(&s, value)
		list = append(list, s)
	}
	return list
}

func invalidStanzas() []impl.Stanza {
	kinds := []string{"", "Message", "MESSAGE", "messages", "messag", " message", "message ", "message/", "error", "stream", "a", "iq\x00", "presenc", "dbb", long(impl.MaxBytes + 1)}
	types := []string{" ", "_a", "9", "Chat", "a-b", "a b", "a.b", "é", "'", "a'", long(21), long(impl.MaxBytes + 1)}
	bodies := []string{"\n", "\x00", "\x1f", "\x7f", "\x80", "\xff", "a\n", "\ta", "é", "a\u2028", "\ufffd", long(399) + "\n", long(401), long(402), strings.Repeat("é", 200), long(impl.MaxBytes + 1)}
	list := []impl.Stanza{{}}
	list = append(list, changedChats(kinds, func(s *impl.Stanza, value string) { s.Kind = value })...)
	list = append(list, changedChats(types, func(s *impl.Stanza, value string) { s.Type = value })...)
	list = append(list, changedChats(textsThatAreNoAddresses(), func(s *impl.Stanza, value string) { s.From = value })...)
	list = append(list, changedChats(textsThatAreNoAddresses(), func(s *impl.Stanza, value string) { s.To = value })...)
	list = append(list, changedChats(bodies, func(s *impl.Stanza, value string) { s.Body = value })...)
	for _, id := range []int64{-1, -5, math.MinInt64, impl.MaxTime + 1, math.MaxInt64, 1<<32 + 5} {
		s := chat()
		s.Id = id
		list = append(list, s)
	}
	return list
}

func checkStanzaRead(t *testing.T, text string, want impl.StanzaOut) {
	t.Helper()
	if got := impl.StanzaRead(text); got != want {
		t.Errorf("StanzaRead(%.300q) = %.300q with Id %d and code %d, want %.300q with Id %d and code %d",
			text, fields(got.Stanza), got.Stanza.Id, got.Code, fields(want.Stanza), want.Stanza.Id, want.Code)
	}
}

func checkStanza(t *testing.T, what string, got impl.Stanza, want impl.Stanza) {
	t.Helper()
	if got != want {
		t.Errorf("%s is %.300q with Id %d, want %.300q with Id %d", what, fields(got), got.Id, fields(want), want.Id)
	}
}

func fields(s impl.Stanza) []string {
	return []string{s.Kind, s.Type, s.From, s.To, s.Body}
}

func TestValidStanzas(t *testing.T) {
	for _, s := range validStanzas() {
		if !impl.StanzaRight(s) {
			t.Errorf("%.300q with Id %d is not valid", fields(s), s.Id)
		}
	}
	for _, s := range invalidStanzas() {
		if impl.StanzaRight(s) {
			t.Errorf("%.300q with Id %d is valid", fields(s), s.Id)
		}
	}
}

func TestSizesOfBodies(t *testing.T) {
	for _, size := range []int{0, 1, 399, 400, 401, 402, 2000, 2001, impl.MaxBytes, impl.MaxBytes + 1} {
		for _, one := range []string{"x", "&"} {
			s := impl.Stanza{Kind: "iq", Body: strings.Repeat(one, size)}
			if got := impl.StanzaRight(s); got != (size <= 400) {
				t.Errorf("a Body of %d bytes %s: valid is %v", size, one, got)
			}
		}
	}
}

func TestBytesOfBodies(t *testing.T) {
	for b := range 256 {
		one := string([]byte{byte(b)})
		for _, body := range []string{one, "a" + one, one + "a", long(399) + one} {
			s := impl.Stanza{Kind: "iq", Body: body}
			if got := impl.StanzaRight(s); got != (b >= 32 && b <= 126) {
				t.Errorf("a Body with the byte %d: valid is %v", b, got)
			}
		}
	}
}

func TestLimitsOfIds(t *testing.T) {
	for _, id := range numbers() {
		for _, near := range []int64{id, impl.MaxTime + id} {
			want := near >= 0 && near <= impl.MaxTime
			if got := impl.StanzaRight(impl.Stanza{Kind: "db", Id: near}); got != want {
				t.Errorf("an Id of %d: valid is %v", near, got)
			}
		}
	}
}

func TestStanzaTexts(t *testing.T) {
	cases := []struct {
		s    impl.Stanza
		want string
	}{
		{chat(), chatText},
		{impl.Stanza{Kind: "iq"}, "<iq/>"},
		{impl.Stanza{Kind: "db"}, "<db/>"},
		{impl.Stanza{Kind: "presence", Type: "away"}, "<presence type='away'/>"},
		{impl.Stanza{Kind: "iq", From: "a"}, "<iq from='a'/>"},
		{impl.Stanza{Kind: "iq", To: "a/B=c"}, "<iq to='a/B=c'/>"},
		{impl.Stanza{Kind: "iq", Id: impl.MaxTime}, "<iq id='1000000000'/>"},
		{impl.Stanza{Kind: "message", Body: " "}, "<message> </message>"},
		{impl.Stanza{Kind: "message", Id: 10, Body: "&<>'\""}, "<message id='10'>&amp;&lt;&gt;&apos;&quot;</message>"},
		{impl.Stanza{Kind: "db", Type: "result", From: "a", To: "b", Id: 1}, "<db type='result' from='a' to='b' id='1'/>"},
	}
	for _, c := range cases {
		if got := impl.StanzaText(c.s); got != c.want {
			t.Errorf("StanzaText(%+v) = %q, want %q", c.s, got, c.want)
		}
	}
	for _, s := range invalidStanzas() {
		if got := impl.StanzaText(s); got != "" {
			t.Errorf("StanzaText of an invalid stanza is %.300q", got)
		}
	}
}

// Promise 6.
func TestStanzaIsRecovered(t *testing.T) {
	for _, s := range validStanzas() {
		checkStanzaRead(t, impl.StanzaText(s), impl.StanzaOut{Stanza: s})
	}
	for b := 32; b <= 126; b++ {
		s := impl.Stanza{Kind: "iq", Body: string([]byte{byte(b)})}
		checkStanzaRead(t, impl.StanzaText(s), impl.StanzaOut{Stanza: s})
	}
	for _, s := range []impl.Stanza{{Kind: "iq", Type: "iq", Body: "iq"}, {Kind: "db", Type: "id", From: "to", To: "from", Id: 7, Body: "type='x'"}} {
		checkStanzaRead(t, impl.StanzaText(s), impl.StanzaOut{Stanza: s})
	}
}

// Promise 6, for the longest text of a stanza.
func TestLongestStanzaIsRecovered(t *testing.T) {
	s := impl.Stanza{Kind: "presence", Type: long(20), From: longestAddress(), To: longestAddress(), Id: impl.MaxTime, Body: strings.Repeat("'", 400)}
	text := impl.StanzaText(s)
	if want := 9 + 28 + 100 + 98 + 16 + 1 + 2400 + 11; len(text) != want {
		t.Errorf("the longest text has %d bytes, want %d", len(text), want)
	}
	checkStanzaRead(t, text, impl.StanzaOut{Stanza: s})
	checkStanzaRead(t, strings.Replace(text, "&apos;", "&apos;&apos;", 1), impl.StanzaOut{Code: impl.ErrSyntax})
}

func TestOtherTextsAreNoStanzas(t *testing.T) {
	texts := []string{
		"", "<", ">", "<>", "</>", "/>", "<iq", "iq", "iq/>", "<iq>", "<iq/", "< iq/>", " <iq/>", "<iq/> ", "<iq />", "<iq/>\n", "\n<iq/>", "<iq//>", "<<iq/>", "<iq/>>",
		"<iq></iq>", "<iq>x", "<iq>x</iq", "<iq>x</iq >", "<iq>x</ iq>", "<iq>x</>", "<iq>x</db>", "<iq>x<iq>", "<iq>x</iq>x", "<iq>x</iq></iq>", "<iq>x</iq><iq/>", "<iq/>x</iq>", "<iq/x</iq>", "<iq>x/>", "<iq>/>", "<iq>x</IQ>",
		"<error/>", "<stream/>", "<Iq/>", "<iqq/>", "<a/>", "<iq\x00/>", "<?iq?>", "</iq>", "<é/>",
		"<iq type=''/>", "<iq from=''/>", "<iq to=''/>", "<iq id=''/>", "<iq type/>", "<iq type=/>", "<iq type='/>", "<iq type=a/>", "<iq type='a/>", "<iq type=a'/>", "<iq type=\"a\"/>", "<iq type=''a''/>", "<iq type= 'a'/>", "<iq type ='a'/>", "<iq  type='a'/>", "<iq type='a' />", "<iq\ttype='a'/>", "<iqtype='a'/>", "<iq type=='a'/>", "<iq type='a'from='b'/>", "<iq type='a'  from='b'/>",
		"<iq type='_a'/>", "<iq type='A'/>", "<iq type='a b'/>", "<iq type='" + long(21) + "'/>", "<iq Type='a'/>", "<iq kind='a'/>", "<iq body='a'/>", "<iq x='a'/>", "<iq ='a'/>", "<iq type='a' x='a'/>",
		"<iq from='@a'/>", "<iq from='A'/>", "<iq from='ANN@a'/>", "<iq to='a/'/>", "<iq to='a/x/y'/>", "<iq to='a/<'/>", "<iq to='a/>'/>", "<iq to='a/&'/>", "<iq to='a/&lt;'/>", "<iq to='a/x y'/>", "<iq to='a/''/>", "<iq to='" + long(31) + "'/>",
		"<iq>\n</iq>", "<iq>\x7f</iq>", "<iq>é</iq>", "<iq>\x00</iq>", "<iq>\xff</iq>", "<iq>" + long(401) + "</iq>", "<iq>" + strings.Repeat("&lt;", 401) + "</iq>", "<iq>" + long(2001) + "</iq>",
		"<iq>&</iq>", "<iq>&lt</iq>", "<iq>&x;</iq>", "<iq>&;</iq>", "<iq>'</iq>", "<iq>\"</iq>", "<iq>></iq>", "<iq><</iq>", "<iq>a<b</iq>", "<iq>a>b</iq>", "<iq>&#60;</iq>", "<iq>&LT;</iq>", "<iq>&amp;&</iq>", "<iq><db/></iq>",
	}
	for _, text := range texts {
		checkStanzaRead(t, text, impl.StanzaOut{Code: impl.ErrSyntax})
	}
}

func TestIdsThatAreNotWrittenAsTheDocumentSays(t *testing.T) {
	ids := []string{"0", "00", "05", "005", "+5", "-5", "-0", "+0", " 5", "5 ", "5.0", "5e0", "0x5", "0b1", "0o5", "1_0", "5_", "a", "5a", "x5", "five", "\xd9\xa5", "1000000001", "01000000000", "9999999999",
		"9223372036854775807", "9223372036854775808", "18446744073709551616", "18446744073709551621", "4294967301", "-9223372036854775808", strings.Repeat("5", 100), strings.Repeat("0", 100) + "5"}
	for _, id := range ids {
		checkStanzaRead(t, "<iq id='"+id+"'/>", impl.StanzaOut{Code: impl.ErrSyntax})
		checkStanzaRead(t, strings.Replace(chatText, "id='5'", "id='"+id+"'", 1), impl.StanzaOut{Code: impl.ErrSyntax})
	}
	for _, id := range []int64{1, 5, 9, 10, 100, 999999999, impl.MaxTime} {
		checkStanzaRead(t, "<iq id='"+strconv.FormatInt(id, 10)+"'/>", impl.StanzaOut{Stanza: impl.Stanza{Kind: "iq", Id: id}})
	}
}

// Sequences of up to four fields, of which only those in the order of the document and without repetition are texts.
func TestOrderOfFields(t *testing.T) {
	written := []string{" type='a'", " from='b'", " to='c'", " id='4'"}
	sequences := [][]int{{}}
	for start := 0; len(sequences[start]) < len(written); start++ {
		for next := range written {
			sequences = append(sequences, append(append([]int{}, sequences[start]...), next))
		}
	}
	for _, sequence := range sequences {
		text, rising, last := "<iq", true, -1
		want := impl.Stanza{Kind: "iq"}
		for _, which := range sequence {
			text += written[which]
			rising = rising && which > last
			last = which
			switch which {
			case 0:
				want.Type = "a"
			case 1:
				want.From = "b"
			case 2:
				want.To = "c"
			case 3:
				want.Id = 4
			}
		}
		if rising {
			checkStanzaRead(t, text+"/>", impl.StanzaOut{Stanza: want})
		} else {
			checkStanzaRead(t, text+"/>", impl.StanzaOut{Code: impl.ErrSyntax})
			checkStanzaRead(t, text+">x</iq>", impl.StanzaOut{Code: impl.ErrSyntax})
		}
	}
}

func TestFieldTwice(t *testing.T) {
	for _, field := range []string{" type='chat'", " from='ann@a'", " to='bob@b/x'", " id='5'"} {
		checkStanzaRead(t, strings.Replace(chatText, field, field+field, 1), impl.StanzaOut{Code: impl.ErrSyntax})
		checkStanzaRead(t, strings.Replace(chatText, ">a", field+">a", 1), impl.StanzaOut{Code: impl.ErrSyntax})
		checkStanzaRead(t, strings.Replace(chatText, "<message", "<message"+field, 1), impl.StanzaOut{Code: impl.ErrSyntax})
	}
	checkStanzaRead(t, "<iq type='a' type='b'/>", impl.StanzaOut{Code: impl.ErrSyntax})
	checkStanzaRead(t, "<iq type='b' type=''/>", impl.StanzaOut{Code: impl.ErrSyntax})
	checkStanzaRead(t, "<iq id='0' id='5'/>", impl.StanzaOut{Code: impl.ErrSyntax})
}

var stanzaForm = regexp.MustCompile(`^<(presence|message|iq|db)(?: type='([a-z][a-z0-9_]{0,19})')?(?: from='([^']+)')?(?: to='([^']+)')?(?: id='([1-9][0-9]{0,9})')?(?:/>|>([ -~]+)</(presence|message|iq|db)>)$`)

var escapedFormOfTests = regexp.MustCompile(`^(?:[^&<>'"]|&(?:amp|lt|gt|apos|quot);)*$`)

var toPlain = strings.NewReplacer("&amp;", "&", "&lt;", "<", "&gt;", ">", "&apos;", "'", "&quot;", "\"")

func referenceAddress(text string) bool {
	read := referenceRead(text)
	return text == "" || read.Code == impl.OK && impl.JidText(read.Jid) == text
}

// referenceStanza reads a stanza with regular expressions.
func referenceStanza(text string) impl.StanzaOut {
	found := stanzaForm.FindStringSubmatch(text)
	if found == nil || found[7] != "" && found[7] != found[1] || !referenceAddress(found[3]) || !referenceAddress(found[4]) || !escapedFormOfTests.MatchString(found[6]) {
		return impl.StanzaOut{Code: impl.ErrSyntax}
	}
	id, _ := strconv.Atoi("0" + found[5])
	body := toPlain.Replace(found[6])
	if id > impl.MaxTime || len(body) > 400 {
		return impl.StanzaOut{Code: impl.ErrSyntax}
	}
	return impl.StanzaOut{Stanza: impl.Stanza{Kind: found[1], Type: found[2], From: found[3], To: found[4], Id: int64(id), Body: body}}
}

func TestChangedTextsAreReadAsByTheReference(t *testing.T) {
	for _, text := range []string{chatText, "<iq/>", "<db type='a' id='10'/>", "<presence from='a' to='a/B'>&amp;&apos; ;</presence>"} {
		for b := range 256 {
			one := string([]byte{byte(b)})
			for at := range len(text) {
				changed := text[:at] + one + text[at+1:]
				checkStanzaRead(t, changed, referenceStanza(changed))
			}
			for at := range len(text) + 1 {
				inserted := text[:at] + one + text[at:]
				checkStanzaRead(t, inserted, referenceStanza(inserted))
			}
		}
		for from := range len(text) {
			for to := from + 1; to <= len(text); to++ {
				without := text[:from] + text[to:]
				checkStanzaRead(t, without, referenceStanza(without))
				twice := text[:to] + text[from:]
				checkStanzaRead(t, twice, referenceStanza(twice))
			}
		}
	}
}

// All short sequences of pieces of texts.
func TestPiecesOfTextsAreReadAsByTheReference(t *testing.T) {
	pieces := []string{"<iq", " type='a'", " to='a'", " id='1'", "/>", ">", "</iq>", "x", "&lt;", "<db", "'"}
	texts := []string{""}
	for range 5 {
		var longer []string
		for _, text := range texts {
			checkStanzaRead(t, text, referenceStanza(text))
			for _, piece := range pieces {
				longer = append(longer, text+piece)
			}
		}
		texts = longer
	}
	for _, text := range texts {
		checkStanzaRead(t, text, referenceStanza(text))
	}
}

func TestStanzaReadSize(t *testing.T) {
	for _, text := range []string{long(impl.MaxBytes), "<iq>" + long(impl.MaxBytes-9) + "</iq>", "<iq" + strings.Repeat(" ", impl.MaxBytes-5) + "/>", strings.Repeat("<iq/>", impl.MaxBytes/5)} {
		checkStanzaRead(t, text, impl.StanzaOut{Code: impl.ErrSyntax})
		checkStanzaRead(t, text+"x", impl.StanzaOut{Code: impl.ErrSize})
	}
	checkStanzaRead(t, "<iq/>"+long(impl.MaxBytes), impl.StanzaOut{Code: impl.ErrSize})
}

func checkPlain(t *testing.T, text string, want impl.TextOut) {
	t.Helper()
	if got := impl.Plain(text); got != want {
		t.Errorf("Plain(%.100q) = %.100q of %d bytes, At %d, Code %d, want %.100q of %d bytes, At %d, Code %d",
			text, got.Text, len(got.Text), got.At, got.Code, want.Text, len(want.Text), want.At, want.Code)
	}
}

func TestEscapeTexts(t *testing.T) {
	cases := []struct{ text, want string }{
		{"", ""},
		{"&", "&amp;"}, {"<", "&lt;"}, {">", "&gt;"}, {"'", "&apos;"}, {"\"", "&quot;"},
		{"'&\"", "&apos;&amp;&quot;"},
		{"a<b>c", "a&lt;b&gt;c"},
		{"&lt;", "&amp;lt;"}, {"&amp;", "&amp;amp;"},
		{"plain; text/=#", "plain; text/=#"},
		{"é<\u4e16>\u2028", "é&lt;\u4e16&gt;\u2028"},
		{"\ufffd<\xff&\x80", "\ufffd&lt;\xff&amp;\x80"},
		{"\xc0\xbc\xe2\x82<\x00", "\xc0\xbc\xe2\x82&lt;\x00"},
		{"\uff1c\u2039", "\uff1c\u2039"},
	}
	for _, c := range cases {
		if got := impl.Escape(c.text); got != c.want {
			t.Errorf("Escape(%q) = %q, want %q", c.text, got, c.want)
		}
	}
}

func TestEscapeLimits(t *testing.T) {
	for _, one := range []string{"x", "\xff", "&", "<", ">", "'", "\""} {
		want := strings.Repeat(impl.Escape(one), 2000)
		if got := impl.Escape(strings.Repeat(one, 2000)); got != want {
			t.Errorf("Escape of 2000 bytes %q has %d bytes, want %d", one, len(got), len(want))
		}
		for _, size := range []int{2001, 2002, impl.MaxBytes, impl.MaxBytes + 1} {
			if got := impl.Escape(strings.Repeat(one, size)); got != "" {
				t.Errorf("Escape of %d bytes %q has %d bytes, want none", size, one, len(got))
			}
		}
	}
	if got := impl.Escape(strings.Repeat("é", 1000)); got != strings.Repeat("é", 1000) {
		t.Errorf("Escape of 1000 runes has %d bytes", len(got))
	}
	if got := impl.Escape(strings.Repeat("é", 1001)); got != "" {
		t.Errorf("Escape of 1001 runes of two bytes has %d bytes, want none", len(got))
	}
}

// stringsOfTests returns every byte alone and beside others, all short strings over some characters, and long ones.
func stringsOfTests() []string {
	list := []string{"", sample(2000), sample(1999), printableBytes(), "&lt;&gt;&amp;&apos;&quot;", "&amp;lt;", "\ufffd", "é\xc3"}
	for b := range 256 {
		one := string([]byte{byte(b)})
		list = append(list, one, "a"+one, one+"&", "<"+one+">", "\xe2\x82"+one, strings.Repeat(one, 2000))
	}
	short := []string{""}
	for start := 0; len(short[start]) < 5; start++ {
		for _, one := range []string{"&", "<", ">", "'", "\"", ";", "l", "t"} {
			short = append(short, short[start]+one)
		}
	}
	return append(list, short...)
}

// Promise 7: the string is recovered.
func TestStringIsRecoveredFromItsEscapedForm(t *testing.T) {
	for _, text := range stringsOfTests() {
		checkPlain(t, impl.Escape(text), impl.TextOut{Text: text})
	}
	for _, text := range []string{"&", "a<b", long(300), strings.Repeat(markup, 20)} {
		checkPlain(t, impl.Escape(impl.Escape(text)), impl.TextOut{Text: impl.Escape(text)})
	}
}

// Promise 7: no markup characters remain; each & begins one of the five forms.
func TestEscapedFormHasNoMarkup(t *testing.T) {
	for _, text := range stringsOfTests() {
		escaped := impl.Escape(text)
		if strings.ContainsAny(escaped, "<>'\"") || !escapedFormOfTests.MatchString(escaped) {
			t.Errorf("Escape(%.100q) = %.100q contains markup", text, escaped)
		}
		if toPlain.Replace(escaped) != text {
			t.Errorf("Escape(%.100q) = %.100q", text, escaped)
		}
	}
}

func TestPlainTexts(t *testing.T) {
	cases := []struct{ text, want string }{
		{"", ""}, {"x", "x"}, {";", ";"}, {"lt;", "lt;"}, {";;", ";;"}, {"#60;", "#60;"},
		{"&amp;", "&"}, {"&lt;", "<"}, {"&gt;", ">"}, {"&apos;", "'"}, {"&quot;", "\""},
		{"&amp;lt;", "&lt;"}, {"&amp;amp;", "&amp;"}, {"&amp;x;", "&x;"}, {"&lt;;", "<;"}, {";&lt;", ";<"},
		{"&lt;&gt;", "<>"}, {"a&lt;b&gt;c", "a<b>c"}, {"\xff&lt;\x80", "\xff<\x80"}, {"é\n\x00", "é\n\x00"},
	}
	for _, c := range cases {
		checkPlain(t, c.text, impl.TextOut{Text: c.want})
	}
}

func TestTextsThatAreNoEscapedForms(t *testing.T) {
	texts := []string{"&x;", "&", "&;", "&&", "& ", "a&", "&a", "&lt", "&lt ;", "& lt;", "&l", "&lt&gt;", "&lt&;", "&amp", "&am;", "&ampp;", "&AMP;", "&Lt;", "&apo;", "&quote;", "&quot:", "&#38;", "&#x26;", "&nbsp;", "&&lt;", "&&amp;",
		"&amp;&", "&lt;&x;", "&x;&lt;", "&l\xfft;", "&lt\x00;", "&é;", "x&lt;&gt", "&lt;<", "<&lt;", "&<;", "&\";", "&amp&amp;;"}
	for _, b := range "<>'\"&" {
		one := string(b)
		texts = append(texts, one, "a"+one, one+"a", one+";", "&amp;"+one, one+"&amp;", long(1999)+one)
	}
	for _, text := range texts {
		checkPlain(t, text, impl.TextOut{Code: impl.ErrSyntax})
	}
}

func referencePlain(text string) impl.TextOut {
	plain := toPlain.Replace(text)
	if !escapedFormOfTests.MatchString(text) || len(plain) > 2000 {
		return impl.TextOut{Code: impl.ErrSyntax}
	}
	return impl.TextOut{Text: plain}
}

func TestShortTextsArePlainAsByTheReference(t *testing.T) {
	texts := []string{""}
	for range 6 {
		var longer []string
		for _, text := range texts {
			checkPlain(t, text, referencePlain(text))
			for _, piece := range []string{"&", "lt", "amp", "quot", ";", "x", "\xff", "<"} {
				longer = append(longer, text+piece)
			}
		}
		texts = longer
	}
	const text = "a&lt;&apos;b&quot;&amp;&gt;"
	for b := range 256 {
		one := string([]byte{byte(b)})
		for at := range len(text) {
			checkPlain(t, text[:at]+one+text[at+1:], referencePlain(text[:at]+one+text[at+1:]))
			checkPlain(t, text[:at]+one+text[at:], referencePlain(text[:at]+one+text[at:]))
		}
	}
}

func TestPlainLimits(t *testing.T) {
	for one, form := range map[string]string{"x": "x", "\xff": "\xff", "&": "&amp;", "<": "&lt;", ">": "&gt;", "'": "&apos;", "\"": "&quot;"} {
		checkPlain(t, strings.Repeat(form, 2000), impl.TextOut{Text: strings.Repeat(one, 2000)})
		checkPlain(t, strings.Repeat(form, 2001), impl.TextOut{Code: impl.ErrSyntax})
		checkPlain(t, strings.Repeat(form, 1999)+"x", impl.TextOut{Text: strings.Repeat(one, 1999) + "x"})
		checkPlain(t, strings.Repeat(form, 2000)+"x", impl.TextOut{Code: impl.ErrSyntax})
	}
	for _, text := range []string{long(impl.MaxBytes), strings.Repeat("&", impl.MaxBytes), "&" + strings.Repeat(";", impl.MaxBytes-1), strings.Repeat("&lt;", impl.MaxBytes/4)} {
		checkPlain(t, text, impl.TextOut{Code: impl.ErrSyntax})
		checkPlain(t, text+"x", impl.TextOut{Code: impl.ErrSize})
	}
}

// Promise 8: a reply goes to the sender.
func TestReplyGoesToTheSender(t *testing.T) {
	for _, s := range validStanzas() {
		want := impl.Stanza{Kind: s.Kind, Type: "result", From: s.To, To: s.From, Id: s.Id, Body: "ok"}
		checkStanza(t, "a reply", impl.Reply(s, "result", "ok"), want)
		want.Type, want.Body = "", ""
		checkStanza(t, "an empty reply", impl.Reply(s, "", ""), want)
		if back := impl.Reply(impl.Reply(s, "a", "b"), s.Type, s.Body); back != s {
			t.Errorf("the reply to a reply, with the first Type and Body, is %.300q", fields(back))
		}
	}
	checkStanza(t, "the reply to the example", impl.Reply(chat(), "result", "ok"),
		impl.Stanza{Kind: "message", Type: "result", From: "bob@b/x", To: "ann@a", Id: 5, Body: "ok"})
}

func TestReplyThatIsNotValid(t *testing.T) {
	for _, s := range invalidStanzas() {
		checkStanza(t, "the reply to an invalid stanza", impl.Reply(s, "result", "ok"), impl.Stanza{})
		checkStanza(t, "the empty reply to an invalid stanza", impl.Reply(s, "", ""), impl.Stanza{})
	}
	for _, kind := range []string{" ", "_a", "9", "Result", "a b", "'", "é", long(21), long(impl.MaxBytes), long(impl.MaxBytes + 1)} {
		checkStanza(t, "a reply whose Type is no name", impl.Reply(chat(), kind, "ok"), impl.Stanza{})
	}
	for _, body := range []string{"\n", "\x7f", "é", "\xff", "ok\x00", long(401), long(impl.MaxBytes), long(impl.MaxBytes + 1)} {
		checkStanza(t, "a reply whose Body is not valid", impl.Reply(chat(), "result", body), impl.Stanza{})
	}
	for _, body := range []string{long(400), strings.Repeat("&", 400), printableBytes()} {
		want := impl.Stanza{Kind: "message", Type: long(20), From: "bob@b/x", To: "ann@a", Id: 5, Body: body}
		checkStanza(t, "a long reply", impl.Reply(chat(), long(20), body), want)
	}
}

// Promise 8: an error is never answered by an error.
func TestFaults(t *testing.T) {
	for _, s := range validStanzas() {
		want := impl.Stanza{Kind: s.Kind, Type: "error", From: s.To, To: s.From, Id: s.Id, Body: "full"}
		if s.Type == "error" {
			want = impl.Stanza{}
		}
		fault := impl.Fault(s, "full")
		checkStanza(t, "a fault", fault, want)
		checkStanza(t, "the fault of a fault", impl.Fault(fault, "full"), impl.Stanza{})
	}
	for _, typ := range []string{"", "error_", "errors", "erro", "result"} {
		s := impl.Stanza{Kind: "iq", Type: typ, From: "a", Id: 2}
		checkStanza(t, "a fault of an iq", impl.Fault(s, long(20)), impl.Stanza{Kind: "iq", Type: "error", To: "a", Id: 2, Body: long(20)})
	}
}

func TestFaultThatIsNotValid(t *testing.T) {
	for _, s := range invalidStanzas() {
		checkStanza(t, "the fault of an invalid stanza", impl.Fault(s, "full"), impl.Stanza{})
	}
	for _, name := range []string{"", " ", "_a", "9", "Full", "a b", "a-b", "é", "a\n", long(21), long(impl.MaxBytes + 1)} {
		checkStanza(t, "a fault whose name is no name", impl.Fault(chat(), name), impl.Stanza{})
		checkStanza(t, "a fault of an error whose name is no name", impl.Fault(impl.Fault(chat(), "full"), name), impl.Stanza{})
	}
}
