package tests

import (
	"fmt"
	"math"
	"math/rand"
	"slices"
	"strings"
	"testing"

	"loop.example/g00387/impl"
)

const longestText = 1000

// textsOfAgain returns so many texts, no two of which are equal.
func textsOfAgain(count int) []string {
	var list []string
	for i := range count {
		list = append(list, fmt.Sprintf("text %03d", i))
	}
	return list
}

// againWith returns an end with so many texts that are not acknowledged.
func againWith(sent int64, count int, got int64) impl.Again {
	return impl.Again{Sent: sent, Queue: textsOfAgain(count), Got: got}
}

func timesOfAgain() []int64 {
	return []int64{0, 1, 2, 500, impl.MaxTime - 1, impl.MaxTime}
}

func numbersThatAreNoTimes() []int64 {
	return []int64{math.MinInt64, -impl.MaxTime, -2, -1, impl.MaxTime + 1, 1 << 32, 1<<32 + 5, math.MaxInt64}
}

// textsToSend are texts of every sort, up to the longest.
func textsToSend() []string {
	list := []string{"xy", "<iq/>", "\n\n", "\x00\xff", "\u00e4\u20ac", "text 000", long(2), long(longestText - 1), long(longestText), strings.Repeat("\u20ac", 333) + "x"}
	for b := range 256 {
		list = append(list, string([]byte{byte(b)}))
	}
	return list
}

func textsThatAreNotSent() []string {
	return []string{"", long(longestText + 1), long(longestText + 2), strings.Repeat("\n", longestText+1), strings.Repeat("\u20ac", 334), long(impl.MaxBytes - 1), long(impl.MaxBytes)}
}

func validAgains() []impl.Again {
	list := []impl.Again{{}, {Queue: []string{}}}
	for _, count := range []int{0, 1, 2, impl.MaxAgain - 1, impl.MaxAgain} {
		for _, sent := range append(timesOfAgain(), int64(count), int64(count)+1) {
			for _, got := range timesOfAgain() {
				if sent >= int64(count) {
					list = append(list, againWith(sent, count, got))
				}
			}
		}
	}
	for _, text := range textsToSend() {
		list = append(list, impl.Again{Sent: 1, Queue: []string{text}}, impl.Again{Sent: 9, Queue: []string{"ahead", text, "behind", text}, Got: 3})
	}
	return list
}

// invalidAgains returns ends that each have one fault.
func invalidAgains() []impl.Again {
	var list []impl.Again
	for _, n := range numbersThatAreNoTimes() {
		list = append(list, againWith(n, 0, 0), againWith(0, 0, n), againWith(3, 2, n), againWith(impl.MaxTime, impl.MaxAgain, n))
		if n > 0 {
			list = append(list, againWith(n, 2, 0), againWith(n, impl.MaxAgain, impl.MaxTime))
		}
	}
	for count := 1; count <= impl.MaxAgain; count++ {
		list = append(list, againWith(int64(count)-1, count, 0), againWith(0, count, impl.MaxTime))
	}
	for _, count := range []int{impl.MaxAgain + 1, impl.MaxAgain + 2, impl.MaxList, impl.MaxList + 1} {
		list = append(list, againWith(int64(count), count, 0), againWith(impl.MaxTime, count, impl.MaxTime))
	}
	for _, text := range append(textsThatAreNotSent(), long(impl.MaxBytes+1)) {
		for at := range impl.MaxAgain {
			a := againWith(20, impl.MaxAgain, 7)
			a.Queue[at] = text
			list = append(list, a)
		}
		list = append(list, impl.Again{Sent: 1, Queue: []string{text}})
	}
	return list
}

// acksAround returns the acknowledgments that an end can receive, and others on both sides of them and far away.
func acksAround(a impl.Again) []int64 {
	list := []int64{math.MinInt64, math.MinInt64 + 5, -impl.MaxTime, -1, 0, 1, impl.MaxTime, impl.MaxTime + 1, 1<<32 + 1, math.MaxInt64}
	for n := a.Sent - int64(len(a.Queue)) - 2; n <= a.Sent+2; n++ {
		list = append(list, n)
	}
	return list
}

func shownAgain(a impl.Again) string {
	return fmt.Sprintf("Sent %d, Got %d, %d texts: %.20q", a.Sent, a.Got, len(a.Queue), a.Queue[:min(len(a.Queue), impl.MaxAgain+1)])
}

func shownAgainOut(out impl.AgainOut) string {
	return fmt.Sprintf("code %d, %s, and %d Texts: %.20q", out.Code, shownAgain(out.Again), len(out.Texts), out.Texts)
}

func sameAgain(a impl.Again, b impl.Again) bool {
	return a.Sent == b.Sent && a.Got == b.Got && slices.Equal(a.Queue, b.Queue)
}

func sameAgainOut(a impl.AgainOut, b impl.AgainOut) bool {
	return a.Code == b.Code && sameAgain(a.Again, b.Again) && slices.Equal(a.Texts, b.Texts)
}

func noAgain(code int64) impl.AgainOut {
	return impl.AgainOut{Code: code}
}

func again(sent int64, got int64, queue ...string) impl.AgainOut {
	return impl.AgainOut{Again: impl.Again{Sent: sent, Queue: queue, Got: got}}
}

func checkAgainRight(t *testing.T, a impl.Again, want bool) {
	t.Helper()
	if got := impl.AgainRight(a); got != want {
		t.Errorf("AgainRight(%s): got %t, want %t", shownAgain(a), got, want)
	}
}

// checkAgain also tells when the end that the call was given is not what it was before, or the one that it returns is not valid.
func checkAgain(t *testing.T, what string, a impl.Again, call func() impl.AgainOut, want impl.AgainOut) impl.AgainOut {
	t.Helper()
	before := slices.Clone(a.Queue)
	got := call()
	if !sameAgainOut(got, want) {
		t.Errorf("%s of %s:\ngot  %s\nwant %s", what, shownAgain(a), shownAgainOut(got), shownAgainOut(want))
	}
	if !slices.Equal(a.Queue, before) {
		t.Errorf("%s has changed %.20q to %.20q", what, before, a.Queue)
	}
	checkAgainRight(t, got.Again, true)
	return got
}

func checkSend(t *testing.T, a impl.Again, text string, want impl.AgainOut) impl.AgainOut {
	t.Helper()
	return checkAgain(t, fmt.Sprintf("AgainSend of %d bytes, %.20q,", len(text), text), a, func() impl.AgainOut { return impl.AgainSend(a, text) }, want)
}

func checkGot(t *testing.T, a impl.Again, want impl.AgainOut) impl.AgainOut {
	t.Helper()
	return checkAgain(t, "AgainGot", a, func() impl.AgainOut { return impl.AgainGot(a) }, want)
}

// checkAck expects the same of AgainResume, and the queue that remains a second time.
func checkAck(t *testing.T, a impl.Again, n int64, want impl.AgainOut) impl.AgainOut {
	t.Helper()
	got := checkAgain(t, fmt.Sprintf("AgainAck %d", n), a, func() impl.AgainOut { return impl.AgainAck(a, n) }, want)
	want.Texts = want.Again.Queue
	checkAgain(t, fmt.Sprintf("AgainResume %d", n), a, func() impl.AgainOut { return impl.AgainResume(a, n) }, want)
	return got
}

func checkLost(t *testing.T, a impl.Again, want int64) {
	t.Helper()
	if got := impl.AgainLost(a); got != want {
		t.Errorf("AgainLost(%s): got %d, want %d", shownAgain(a), got, want)
	}
}

func referenceAgainRight(a impl.Again) bool {
	for _, text := range a.Queue {
		if len(text) < 1 || len(text) > longestText {
			return false
		}
	}
	most := min(a.Sent, impl.MaxAgain)
	return a.Sent <= impl.MaxTime && int64(len(a.Queue)) <= most && a.Got >= 0 && a.Got <= impl.MaxTime
}

func referenceSend(a impl.Again, text string) impl.AgainOut {
	switch {
	case len(text) > impl.MaxBytes:
		return noAgain(impl.ErrSize)
	case !referenceAgainRight(a) || len(text) < 1 || len(text) > longestText:
		return noAgain(impl.ErrForm)
	case len(a.Queue) >= impl.MaxAgain || a.Sent >= impl.MaxTime:
		return noAgain(impl.ErrFull)
	}
	return again(a.Sent+1, a.Got, append(slices.Clone(a.Queue), text)...)
}

func referenceGot(a impl.Again) impl.AgainOut {
	switch {
	case !referenceAgainRight(a):
		return noAgain(impl.ErrForm)
	case a.Got >= impl.MaxTime:
		return noAgain(impl.ErrFull)
	}
	return again(a.Sent, a.Got+1, a.Queue...)
}

// referenceAck numbers the texts of the queue from the last one down, whose number is Sent.
func referenceAck(a impl.Again, n int64) impl.AgainOut {
	if !referenceAgainRight(a) {
		return noAgain(impl.ErrForm)
	}
	out := again(a.Sent, a.Got)
	number := a.Sent
	for i := len(a.Queue) - 1; i >= 0; i-- {
		if number > n {
			out.Again.Queue = append([]string{a.Queue[i]}, out.Again.Queue...)
		}
		number--
	}
	if n < number || n > a.Sent {
		return noAgain(impl.ErrRange)
	}
	return out
}

// checkAllOfAgain calls every function with an end.
func checkAllOfAgain(t *testing.T, a impl.Again, texts []string) {
	t.Helper()
	right := referenceAgainRight(a)
	checkAgainRight(t, a, right)
	lost := int64(0)
	if right {
		lost = int64(len(a.Queue))
	}
	checkLost(t, a, lost)
	checkGot(t, a, referenceGot(a))
	for _, n := range acksAround(a) {
		checkAck(t, a, n, referenceAck(a, n))
	}
	for _, text := range texts {
		checkSend(t, a, text, referenceSend(a, text))
	}
}

func TestAgainConstant(t *testing.T) {
	if impl.MaxAgain != 10 {
		t.Errorf("MaxAgain is %d", impl.MaxAgain)
	}
}

func TestExampleOfAgain(t *testing.T) {
	a := checkSend(t, impl.Again{}, "x", again(1, 0, "x")).Again
	a = checkSend(t, a, "y", again(2, 0, "x", "y")).Again
	out := impl.AgainResume(a, 1)
	if want := (impl.AgainOut{Again: again(2, 0, "y").Again, Texts: []string{"y"}}); !sameAgainOut(out, want) {
		t.Errorf("resumed: got %s, want %s", shownAgainOut(out), shownAgainOut(want))
	}
	checkAck(t, a, 3, noAgain(impl.ErrRange))
	checkAck(t, a, 0, again(2, 0, "x", "y"))
	checkAck(t, a, 2, again(2, 0))
}

func TestValidAgains(t *testing.T) {
	for _, a := range validAgains() {
		checkAgainRight(t, a, true)
	}
	for _, a := range invalidAgains() {
		checkAgainRight(t, a, false)
		checkLost(t, a, 0)
	}
}

func TestNumbersOfAgain(t *testing.T) {
	for _, n := range append(timesOfAgain(), 3, impl.MaxAgain) {
		checkAgainRight(t, againWith(n, 0, 0), true)
		checkAgainRight(t, againWith(0, 0, n), true)
		checkAgainRight(t, againWith(n, 0, n), true)
	}
	for _, n := range numbersThatAreNoTimes() {
		checkAgainRight(t, againWith(n, 0, 0), false)
		checkAgainRight(t, againWith(0, 0, n), false)
		checkAgainRight(t, againWith(n, 0, n), false)
	}
}

// A queue has at most MaxAgain texts, and no more than were sent.
func TestSizesOfQueues(t *testing.T) {
	for count := range 2*impl.MaxAgain + 1 {
		for sent := int64(-1); sent <= 2*impl.MaxAgain+1; sent++ {
			want := count <= impl.MaxAgain && sent >= int64(count)
			checkAgainRight(t, againWith(sent, count, 0), want)
			lost := int64(0)
			if want {
				lost = int64(count)
			}
			checkLost(t, againWith(sent, count, 0), lost)
		}
		checkAgainRight(t, againWith(impl.MaxTime, count, impl.MaxTime), count <= impl.MaxAgain)
		checkAgainRight(t, againWith(impl.MaxTime+1, count, 0), false)
	}
}

func TestTextsOfQueues(t *testing.T) {
	check := func(text string, want bool) {
		t.Helper()
		for count := 1; count <= impl.MaxAgain; count++ {
			for at := range count {
				a := againWith(12, count, 0)
				a.Queue[at] = text
				checkAgainRight(t, a, want)
			}
		}
	}
	for _, text := range textsToSend() {
		check(text, true)
	}
	for _, text := range append(textsThatAreNotSent(), long(impl.MaxBytes+1)) {
		check(text, false)
	}
	for size := range 1100 {
		checkAgainRight(t, impl.Again{Sent: 1, Queue: []string{long(size)}}, size >= 1 && size <= longestText)
	}
	// The same text can be sent more than once, and the texts are in no order of their own.
	checkAgainRight(t, impl.Again{Sent: 4, Queue: []string{"b", "a", "b", "b"}}, true)
}

func TestAgainSend(t *testing.T) {
	checkSend(t, impl.Again{}, "x", again(1, 0, "x"))
	checkSend(t, impl.Again{Sent: 7, Queue: []string{"b"}, Got: 5}, "a", again(8, 5, "b", "a"))
	checkSend(t, impl.Again{Sent: 7, Queue: []string{"b", "a"}, Got: 5}, "b", again(8, 5, "b", "a", "b"))
	for _, text := range textsToSend() {
		checkSend(t, impl.Again{}, text, again(1, 0, text))
		checkSend(t, impl.Again{Sent: 3, Queue: []string{"b"}, Got: 9}, text, again(4, 9, "b", text))
	}
	for _, text := range textsThatAreNotSent() {
		checkSend(t, impl.Again{}, text, noAgain(impl.ErrForm))
		checkSend(t, impl.Again{Sent: 3, Queue: []string{"b"}, Got: 9}, text, noAgain(impl.ErrForm))
	}
	for size := range 1100 {
		want := again(1, 0, long(size))
		if size < 1 || size > longestText {
			want = noAgain(impl.ErrForm)
		}
		checkSend(t, impl.Again{}, long(size), want)
	}
}

func TestSendUntilFull(t *testing.T) {
	a := impl.Again{Sent: 5, Got: 3}
	texts := textsOfAgain(impl.MaxAgain)
	for i, text := range texts {
		checkLost(t, a, int64(i))
		a = checkSend(t, a, text, again(6+int64(i), 3, texts[:i+1]...)).Again
	}
	checkSend(t, a, "x", noAgain(impl.ErrFull))
	a = checkAck(t, a, 6, again(15, 3, texts[1:]...)).Again
	a = checkSend(t, a, "x", again(16, 3, append(texts[1:], "x")...)).Again
	checkSend(t, a, "x", noAgain(impl.ErrFull))

	last := impl.Again{Sent: impl.MaxTime - 1}
	last = checkSend(t, last, "x", again(impl.MaxTime, 0, "x")).Again
	checkSend(t, last, "x", noAgain(impl.ErrFull))
	last = checkAck(t, last, impl.MaxTime, again(impl.MaxTime, 0)).Again
	checkSend(t, last, "x", noAgain(impl.ErrFull))
	checkSend(t, againWith(impl.MaxTime, impl.MaxAgain, 0), "x", noAgain(impl.ErrFull))
}

func TestAgainGot(t *testing.T) {
	a := impl.Again{}
	for got := range int64(30) {
		a = checkGot(t, a, again(0, got+1)).Again
	}
	checkGot(t, impl.Again{Sent: 4, Queue: []string{"b", "a"}, Got: 7}, again(4, 8, "b", "a"))
	checkGot(t, againWith(impl.MaxTime, impl.MaxAgain, 0), again(impl.MaxTime, 1, textsOfAgain(impl.MaxAgain)...))
	last := checkGot(t, againWith(2, 2, impl.MaxTime-1), again(2, impl.MaxTime, textsOfAgain(2)...)).Again
	checkGot(t, last, noAgain(impl.ErrFull))
	// What is received has nothing to do with what is sent.
	checkSend(t, last, "x", again(3, impl.MaxTime, append(textsOfAgain(2), "x")...))
	checkAck(t, last, 1, again(2, impl.MaxTime, textsOfAgain(2)[1:]...))
}

func TestAgainAck(t *testing.T) {
	for _, sent := range []int64{impl.MaxAgain, impl.MaxAgain + 1, 500, impl.MaxTime - 1, impl.MaxTime} {
		for count := range impl.MaxAgain + 1 {
			a := againWith(sent, count, 4)
			first := sent - int64(count)
			for _, n := range []int64{math.MinInt64, -1, first - 2, first - 1, sent + 1, sent + 2, impl.MaxTime + 1, math.MaxInt64} {
				checkAck(t, a, n, noAgain(impl.ErrRange))
			}
			for acked := range count + 1 {
				checkAck(t, a, first+int64(acked), again(sent, 4, a.Queue[acked:]...))
			}
		}
	}
	checkAck(t, impl.Again{}, 0, again(0, 0))
	checkAck(t, impl.Again{}, -1, noAgain(impl.ErrRange))
	checkAck(t, impl.Again{}, 1, noAgain(impl.ErrRange))
	checkAck(t, againWith(3, 3, 0), 0, again(3, 0, textsOfAgain(3)...))
	checkAck(t, againWith(3, 3, 0), -1, noAgain(impl.ErrRange))
}

func TestAllFunctionsOfValidAgains(t *testing.T) {
	texts := []string{"x", "text 000", long(longestText), long(longestText + 1), "", long(impl.MaxBytes), long(impl.MaxBytes + 1)}
	for _, a := range validAgains() {
		checkAllOfAgain(t, a, texts)
	}
}

// Each of the calls would be accepted, or give another error, if the end were valid.
func TestInvalidAgainsAreRejected(t *testing.T) {
	for _, a := range invalidAgains() {
		for _, text := range append(textsThatAreNotSent(), "x", long(longestText)) {
			checkSend(t, a, text, noAgain(impl.ErrForm))
		}
		checkGot(t, a, noAgain(impl.ErrForm))
		for _, n := range acksAround(a) {
			checkAck(t, a, n, noAgain(impl.ErrForm))
		}
		checkAllOfAgain(t, a, nil)
	}
}

func TestOrderOfErrorsOfAgain(t *testing.T) {
	longer := long(impl.MaxBytes + 1)
	for _, a := range append(append(validAgains(), invalidAgains()...), againWith(impl.MaxTime, impl.MaxAgain, impl.MaxTime)) {
		checkSend(t, a, longer, noAgain(impl.ErrSize))
	}
	for _, text := range textsThatAreNotSent() {
		checkSend(t, againWith(10, impl.MaxAgain, 0), text, noAgain(impl.ErrForm))
		checkSend(t, againWith(impl.MaxTime, 0, 0), text, noAgain(impl.ErrForm))
		checkSend(t, againWith(impl.MaxTime, impl.MaxAgain, 0), text, noAgain(impl.ErrForm))
	}
	// Invalid ends that are full besides.
	for _, a := range []impl.Again{
		againWith(10, impl.MaxAgain, -1), againWith(impl.MaxTime, 0, impl.MaxTime+1), againWith(9, impl.MaxAgain, 0),
		againWith(impl.MaxTime, impl.MaxAgain+1, 0), againWith(impl.MaxTime+1, 0, 0), {Sent: impl.MaxTime, Queue: []string{""}},
	} {
		for _, text := range []string{"x", "", long(longestText + 1)} {
			checkSend(t, a, text, noAgain(impl.ErrForm))
		}
	}
	for _, a := range []impl.Again{againWith(-1, 0, impl.MaxTime), againWith(1, 2, impl.MaxTime), againWith(20, 11, impl.MaxTime), againWith(0, 0, impl.MaxTime+1), {Sent: 1, Queue: []string{""}, Got: impl.MaxTime}} {
		checkGot(t, a, noAgain(impl.ErrForm))
	}
	// A full end still hears acknowledgments, and one that has received everything still sends.
	checkAck(t, againWith(impl.MaxTime, impl.MaxAgain, impl.MaxTime), impl.MaxTime-1, again(impl.MaxTime, impl.MaxTime, textsOfAgain(impl.MaxAgain)[impl.MaxAgain-1]))
	checkSend(t, againWith(0, 0, impl.MaxTime), "x", again(1, impl.MaxTime, "x"))
}

// The limits of arguments do not hold for what is in a struct, which is invalid then.
func TestLimitsOfAgain(t *testing.T) {
	for _, a := range []impl.Again{againWith(impl.MaxTime, impl.MaxList, 0), againWith(impl.MaxTime, impl.MaxList+1, 0), {Sent: 2, Queue: []string{"x", long(impl.MaxBytes + 1)}}} {
		checkSend(t, a, "x", noAgain(impl.ErrForm))
		checkSend(t, a, long(impl.MaxBytes), noAgain(impl.ErrForm))
		checkSend(t, a, long(impl.MaxBytes+1), noAgain(impl.ErrSize))
		checkGot(t, a, noAgain(impl.ErrForm))
		checkAck(t, a, a.Sent, noAgain(impl.ErrForm))
		checkLost(t, a, 0)
	}
}

// plainEnd is an end as plain lists of all the texts.
type plainEnd struct {
	sent  []string
	acked int
	got   int
}

func (p plainEnd) queue() []string {
	return p.sent[p.acked:]
}

func checkPlainEnd(t *testing.T, a impl.Again, p plainEnd) {
	t.Helper()
	if want := again(int64(len(p.sent)), int64(p.got), p.queue()...).Again; !sameAgain(a, want) {
		t.Errorf("got %s, want %s", shownAgain(a), shownAgain(want))
	}
	checkLost(t, a, int64(len(p.queue())))
}

// plainSend sends the next of the texts of tests.
func plainSend(t *testing.T, a impl.Again, p plainEnd) (impl.Again, plainEnd) {
	t.Helper()
	text := fmt.Sprintf("text %03d", len(p.sent))
	out := impl.AgainSend(a, text)
	if len(p.queue()) == impl.MaxAgain {
		if out.Code != impl.ErrFull {
			t.Errorf("a text more than a queue takes: code %d", out.Code)
		}
		return a, p
	}
	p.sent = append(slices.Clone(p.sent), text)
	checkPlainEnd(t, out.Again, p)
	return out.Again, p
}

func plainGot(t *testing.T, a impl.Again, p plainEnd) (impl.Again, plainEnd) {
	t.Helper()
	p.got++
	out := impl.AgainGot(a)
	checkPlainEnd(t, out.Again, p)
	return out.Again, p
}

// plainAck acknowledges n texts, of which the end can take back nothing that was acknowledged before.
func plainAck(t *testing.T, a impl.Again, p plainEnd, n int, resume bool) (impl.Again, plainEnd) {
	t.Helper()
	out := impl.AgainAck(a, int64(n))
	if resume {
		out = impl.AgainResume(a, int64(n))
	}
	if n < p.acked || n > len(p.sent) {
		if !sameAgainOut(out, noAgain(impl.ErrRange)) {
			t.Errorf("%d of %d texts acknowledged, of which %d were: %s", n, len(p.sent), p.acked, shownAgainOut(out))
		}
		return a, p
	}
	p.acked = n
	checkPlainEnd(t, out.Again, p)
	if resume && !slices.Equal(out.Texts, p.queue()) || !resume && len(out.Texts) != 0 {
		t.Errorf("%d texts acknowledged: %.20q are to be sent again, want %.20q", n, out.Texts, p.queue())
	}
	return out.Again, p
}

// Promises 27 and 28, with all operations in every order.
func TestOrdersOfAgain(t *testing.T) {
	var steps func(depth int, a impl.Again, p plainEnd)
	steps = func(depth int, a impl.Again, p plainEnd) {
		if depth == 0 || t.Failed() {
			return
		}
		follow := func(a impl.Again, p plainEnd) { steps(depth-1, a, p) }
		follow(plainSend(t, a, p))
		follow(plainGot(t, a, p))
		for n := p.acked - 1; n <= len(p.sent)+1; n++ {
			follow(plainAck(t, a, p, n, false))
			follow(plainAck(t, a, p, n, true))
		}
	}
	steps(6, impl.Again{}, plainEnd{})
}

func TestRandomAgain(t *testing.T) {
	random := rand.New(rand.NewSource(12))
	sizes := map[int]int{}
	var a impl.Again
	var p plainEnd
	for range 20000 {
		switch random.Intn(4) {
		case 0:
			a, p = plainGot(t, a, p)
		case 1:
			a, p = plainAck(t, a, p, p.acked+random.Intn(4)-1, random.Intn(2) == 0)
		default:
			a, p = plainSend(t, a, p)
		}
		if random.Intn(100) == 0 {
			a, p = plainAck(t, a, p, len(p.sent)+random.Intn(2), random.Intn(2) == 0)
		}
		sizes[len(a.Queue)]++
		if t.Failed() {
			return
		}
	}
	if len(sizes) != impl.MaxAgain+1 {
		t.Errorf("queues of so many texts were reached: %v", sizes)
	}
}

// Promise 27: whatever else happens, a text is in the queue from when it is sent until n reaches its number.
func TestTextsAreUnacknowledgedUntilTheirAcknowledgment(t *testing.T) {
	for ahead := range impl.MaxAgain {
		for behind := range impl.MaxAgain - ahead {
			a := impl.Again{Sent: 100}
			send := func(text string) {
				t.Helper()
				out := impl.AgainSend(a, text)
				if out.Code != impl.OK {
					t.Fatalf("%q is not sent: code %d", text, out.Code)
				}
				a = impl.AgainGot(out.Again).Again
			}
			for range ahead {
				send("other")
			}
			if slices.Contains(a.Queue, "this") {
				t.Errorf("what is not sent yet is in %q", a.Queue)
			}
			send("this")
			number := a.Sent
			for range behind {
				send("other")
			}
			for n := int64(100); n <= a.Sent; n++ {
				for _, out := range []impl.AgainOut{impl.AgainAck(a, n), impl.AgainResume(a, n)} {
					if out.Code != impl.OK || slices.Contains(out.Again.Queue, "this") != (n < number) {
						t.Errorf("text %d, %d acknowledged: %s", number, n, shownAgainOut(out))
					}
				}
			}
		}
	}
}

// wire is what one end has sent to the other: what is under way, and what was received.
type wire struct {
	sent     []string
	underWay []string
	received []string
}

// resumed returns an end and its wire after the stream is cut off and the other end has told what it got.
func resumed(t *testing.T, a impl.Again, w wire, got int64) (impl.Again, wire) {
	t.Helper()
	out := impl.AgainResume(a, got)
	if out.Code != impl.OK || !slices.Equal(out.Texts, w.sent[len(w.received):]) {
		t.Fatalf("%d of %d texts were received: %s", len(w.received), len(w.sent), shownAgainOut(out))
	}
	w.underWay = out.Texts
	return out.Again, w
}

// Promise 28, of two ends between which the stream is cut off at any time, and all that is under way is lost.
func TestResumedStreams(t *testing.T) {
	for seed := range int64(200) {
		random := rand.New(rand.NewSource(seed))
		var ends [2]impl.Again
		var wires [2]wire
		for step := range 300 {
			side := random.Intn(2)
			own, other := &wires[side], &wires[1-side]
			switch kind := random.Intn(20); {
			case kind < 9:
				text := fmt.Sprintf("step %d", step)
				if out := impl.AgainSend(ends[side], text); out.Code == impl.OK {
					ends[side] = out.Again
					own.sent, own.underWay = append(own.sent, text), append(own.underWay, text)
				}
			case kind < 17 && len(other.underWay) > 0:
				ends[side] = impl.AgainGot(ends[side]).Again
				other.received = append(other.received, other.underWay[0])
				other.underWay = other.underWay[1:]
			case kind < 19:
				out := impl.AgainAck(ends[side], ends[1-side].Got)
				if out.Code != impl.OK {
					t.Fatalf("%s is acknowledged %d: code %d", shownAgain(ends[side]), ends[1-side].Got, out.Code)
				}
				ends[side] = out.Again
			default:
				gots := [2]int64{ends[0].Got, ends[1].Got}
				for i := range 2 {
					ends[i], wires[i] = resumed(t, ends[i], wires[i], gots[1-i])
				}
			}
			for i, w := range wires {
				if !slices.Equal(w.received, w.sent[:len(w.received)]) {
					t.Fatalf("side %d sent %q, and %q was received", i, w.sent, w.received)
				}
			}
		}
	}
}

// spareAgain has room behind its queue, in which there is something already.
func spareAgain(count int) (impl.Again, []string) {
	spare := make([]string, 0, 2*impl.MaxAgain)
	for i := range cap(spare) {
		spare = append(spare, fmt.Sprintf("spare %d", i))
	}
	return impl.Again{Sent: 20, Queue: spare[:count], Got: 4}, spare
}

func TestAgainsAreNotShared(t *testing.T) {
	for count := range impl.MaxAgain + 1 {
		a, spare := spareAgain(count)
		text := strings.Clone("a new text")
		before := slices.Clone(spare)
		given := append(slices.Clone(spare), text)
		calls := []impl.AgainOut{impl.AgainGot(a)}
		if count < impl.MaxAgain {
			calls = append(calls, impl.AgainSend(a, text))
		}
		for acked := range int64(count) + 1 {
			n := a.Sent - int64(count) + acked
			calls = append(calls, impl.AgainAck(a, n), impl.AgainResume(a, n))
		}
		for i, out := range calls {
			if out.Code != impl.OK {
				t.Fatalf("%d texts, call %d: code %d", count, i, out.Code)
			}
			checkTextsNotShared(t, fmt.Sprintf("%d texts, call %d", count, i), append(slices.Clone(out.Again.Queue), out.Texts...), given)
			queue, texts := slices.Clone(out.Again.Queue), slices.Clone(out.Texts)
			_, _ = append(out.Again.Queue, "behind"), append(out.Texts, "behind")
			clear(out.Texts)
			if !slices.Equal(out.Again.Queue, queue) {
				t.Errorf("%d texts, call %d: a change of Texts changes the Queue to %q", count, i, out.Again.Queue)
			}
			copy(out.Texts, texts)
			clear(out.Again.Queue)
			if !slices.Equal(out.Texts, texts) {
				t.Errorf("%d texts, call %d: a change of the Queue changes Texts to %q", count, i, out.Texts)
			}
		}
		if !slices.Equal(spare, before) {
			t.Errorf("the queue, or what is behind it, is changed: %q", spare)
		}
	}
}

// What one call returned does not change with the next one.
func TestSendsAreIndependent(t *testing.T) {
	a, _ := spareAgain(3)
	first := impl.AgainSend(a, "first").Again
	second := impl.AgainSend(a, "second").Again
	longer := impl.AgainSend(first, "longer").Again
	other := impl.AgainSend(first, "other").Again
	for i, queue := range [][]string{first.Queue, second.Queue, longer.Queue[:4], other.Queue[:4]} {
		want := "first"
		if i == 1 {
			want = "second"
		}
		if len(queue) != 4 || queue[3] != want {
			t.Errorf("queue %d has become %q", i, queue)
		}
	}
	if longer.Queue[4] != "longer" || other.Queue[4] != "other" {
		t.Errorf("got %q and %q", longer.Queue, other.Queue)
	}
}
