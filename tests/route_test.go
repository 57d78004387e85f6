package tests

import (
	"fmt"
	"math/rand"
	"slices"
	"strings"
	"testing"

	"loop.example/g00387/impl"
)

// route is one of the functions that route a stanza, with the kind that it is for.
type route struct {
	name string
	kind string
	call func(m impl.Mailbox, s impl.Stanza) impl.RouteOut
}

func routes() []route {
	return []route{{"RouteMessage", "message", impl.RouteMessage}, {"RouteIq", "iq", impl.RouteIq}, {"RoutePresence", "presence", impl.RoutePresence}}
}

func mailbox(l []impl.Session, kept ...impl.Stanza) impl.Mailbox {
	return impl.Mailbox{Sessions: l, Kept: kept}
}

// messages returns so many different messages.
func messages(count int) []impl.Stanza {
	var list []impl.Stanza
	for i := range count {
		list = append(list, impl.Stanza{Kind: "message", Type: []string{"", "chat"}[i%2], From: fmt.Sprintf("bob%d@b", i), To: "ann@a", Id: int64(i), Body: fmt.Sprintf("body %d", i)})
	}
	return list
}

func typesOfTests() []string {
	return []string{"", "chat", "normal", "headline", "groupchat", "error", "get", "set", "result", "subscribe", "unavailable", "headlin", "headlines", "groupchats", "errors", "gets", "se", "e", "full", long(20)}
}

func stanzaTo(kind string, typ string, to string) impl.Stanza {
	return impl.Stanza{Kind: kind, Type: typ, From: "bob@b/x", To: to, Id: 7, Body: "hello"}
}

// homeAndWork are the sessions of the chapter's examples.
func homeAndWork() []impl.Session {
	return sessions(present("home", 1, ""), bound("work"))
}

func addressesWithoutLocal() []string {
	return []string{"", "a", "a/home", "a.b/home", "a/x@y", "a/@", "b", long(30), long(30) + "/" + long(30)}
}

func validMailboxes() []impl.Mailbox {
	var list []impl.Mailbox
	for _, l := range validSessions() {
		for _, count := range []int{0, 1, impl.MaxKept - 1, impl.MaxKept} {
			list = append(list, mailbox(l, messages(count)...))
		}
	}
	// What is kept has no more to be right than to be a valid message.
	for _, s := range []impl.Stanza{{Kind: "message"}, {Kind: "message", Type: "error"}, {Kind: "message", Type: "headline", To: "a"}, {Kind: "message", Type: "groupchat", To: "b@c/d", Body: long(400)}} {
		list = append(list, mailbox(nil, s), mailbox(homeAndWork(), s, s), mailbox(fullSessions(), s, chat(), s))
	}
	return list
}

// invalidMailboxes returns mailboxes of which either the sessions or what is kept is wrong.
func invalidMailboxes() []impl.Mailbox {
	var list []impl.Mailbox
	for _, l := range invalidSessions() {
		list = append(list, mailbox(l))
	}
	for _, l := range [][]impl.Session{sessions(bound("home"), bound("home")), sessions(present("home", 128, "")), sessionsOfTests(impl.MaxList + 1)} {
		list = append(list, mailbox(l, messages(1)...), mailbox(l, messages(impl.MaxKept)...), mailbox(l, messages(impl.MaxKept+1)...))
	}
	for _, count := range []int{impl.MaxKept + 1, impl.MaxKept + 2, impl.MaxList, impl.MaxList + 1} {
		list = append(list, mailbox(nil, messages(count)...), mailbox(homeAndWork(), messages(count)...))
	}
	wrong := invalidStanzas()
	for _, kind := range []string{"iq", "presence", "db"} {
		wrong = append(wrong, stanzaTo(kind, "", "ann@a"), impl.Stanza{Kind: kind})
	}
	for _, s := range wrong {
		two := messages(2)
		list = append(list, mailbox(nil, s), mailbox(homeAndWork(), s, two[0]), mailbox(homeAndWork(), two[0], s, two[1]), mailbox(fullSessions(), two[0], two[1], s))
	}
	return list
}

func shownMailbox(m impl.Mailbox) string {
	text := fmt.Sprintf("%s and %d kept:", shownSessionsOf(m.Sessions), len(m.Kept))
	for _, s := range m.Kept[:min(len(m.Kept), impl.MaxKept+1)] {
		text += fmt.Sprintf(" %.40q", fields(s))
	}
	return text
}

func sameMailbox(a impl.Mailbox, b impl.Mailbox) bool {
	return slices.Equal(a.Sessions, b.Sessions) && slices.Equal(a.Kept, b.Kept)
}

func shownRoute(out impl.RouteOut) string {
	return fmt.Sprintf("%s, to %q, back %.200q, code %d", shownMailbox(out.Mailbox), out.To, fields(out.Back), out.Code)
}

func noRoute(code int64) impl.RouteOut {
	return impl.RouteOut{Code: code}
}

// checkOut also tells when the mailbox that the call was given is not what it was before.
func checkOut(t *testing.T, what string, m impl.Mailbox, call func() impl.RouteOut, want impl.RouteOut) impl.RouteOut {
	t.Helper()
	before := mailbox(slices.Clone(m.Sessions), slices.Clone(m.Kept)...)
	got := call()
	if got.Code != want.Code || got.Back != want.Back || !slices.Equal(got.To, want.To) || !sameMailbox(got.Mailbox, want.Mailbox) {
		t.Errorf("%s in %s:\ngot  %s\nwant %s", what, shownMailbox(m), shownRoute(got), shownRoute(want))
	}
	if !sameMailbox(m, before) {
		t.Errorf("%s has changed %s to %s", what, shownMailbox(before), shownMailbox(m))
	}
	return got
}

func checkRoute(t *testing.T, r route, m impl.Mailbox, s impl.Stanza, want impl.RouteOut) impl.RouteOut {
	t.Helper()
	return checkOut(t, fmt.Sprintf("%s of %.100q", r.name, fields(s)), m, func() impl.RouteOut { return r.call(m, s) }, want)
}

func checkMessage(t *testing.T, m impl.Mailbox, s impl.Stanza, want impl.RouteOut) impl.RouteOut {
	t.Helper()
	return checkRoute(t, routes()[0], m, s, want)
}

func checkIq(t *testing.T, m impl.Mailbox, s impl.Stanza, want impl.RouteOut) impl.RouteOut {
	t.Helper()
	return checkRoute(t, routes()[1], m, s, want)
}

func checkPresence(t *testing.T, m impl.Mailbox, s impl.Stanza, want impl.RouteOut) impl.RouteOut {
	t.Helper()
	return checkRoute(t, routes()[2], m, s, want)
}

func checkTake(t *testing.T, m impl.Mailbox, resource string, want impl.RouteOut) impl.RouteOut {
	t.Helper()
	return checkOut(t, fmt.Sprintf("TakeKept for %.40q", resource), m, func() impl.RouteOut { return impl.TakeKept(m, resource) }, want)
}

func checkMailbox(t *testing.T, m impl.Mailbox, want bool) {
	t.Helper()
	if got := impl.MailboxRight(m); got != want {
		t.Errorf("MailboxRight(%s): got %t, want %t", shownMailbox(m), got, want)
	}
}

func delivered(m impl.Mailbox, resources ...string) impl.RouteOut {
	return impl.RouteOut{Mailbox: m, To: resources}
}

func dropped(m impl.Mailbox) impl.RouteOut {
	return impl.RouteOut{Mailbox: m}
}

func keptToo(m impl.Mailbox, s impl.Stanza) impl.RouteOut {
	return dropped(mailbox(m.Sessions, append(slices.Clone(m.Kept), s)...))
}

// answered returns m beside the answer that the sender of s gets.
func answered(m impl.Mailbox, s impl.Stanza, name string) impl.RouteOut {
	return impl.RouteOut{Mailbox: m, Back: impl.Stanza{Kind: s.Kind, Type: "error", From: s.To, To: s.From, Id: s.Id, Body: name}}
}

// referenceTo returns the Local and the Resource of a text that is an address or empty.
func referenceTo(to string) (string, string) {
	before, resource, _ := strings.Cut(to, "/")
	local, _, found := strings.Cut(before, "@")
	if !found {
		return "", resource
	}
	return local, resource
}

func referenceMessage(m impl.Mailbox, s impl.Stanza, named impl.Session) impl.RouteOut {
	best := referenceBest(m.Sessions)
	switch {
	case s.Type == "error":
		return dropped(m)
	case named.On:
		return delivered(m, named.Resource)
	case s.Type == "groupchat":
		return answered(m, s, "unavailable")
	case len(best) > 0:
		return delivered(m, best...)
	case s.Type == "headline":
		return dropped(m)
	case len(m.Kept) == impl.MaxKept:
		return answered(m, s, "full")
	}
	return keptToo(m, s)
}

func referenceIq(m impl.Mailbox, s impl.Stanza, named impl.Session) impl.RouteOut {
	switch {
	case named.Resource != "":
		return delivered(m, named.Resource)
	case s.Type == "get" || s.Type == "set":
		return answered(m, s, "unavailable")
	}
	return dropped(m)
}

func referencePresence(m impl.Mailbox, resource string, named impl.Session) impl.RouteOut {
	out := dropped(m)
	for _, s := range m.Sessions {
		if s.On && (resource == "" || s == named) {
			out.To = append(out.To, s.Resource)
		}
	}
	return out
}

// referenceRoute returns what the route of a kind returns for a valid mailbox and a valid stanza.
func referenceRoute(kind string, m impl.Mailbox, s impl.Stanza) impl.RouteOut {
	local, resource := referenceTo(s.To)
	if s.Kind != kind || local == "" {
		return noRoute(impl.ErrForm)
	}
	named := modelOf(m.Sessions)[resource]
	switch kind {
	case "message":
		return referenceMessage(m, s, named)
	case "iq":
		return referenceIq(m, s, named)
	}
	return referencePresence(m, resource, named)
}

func referenceTake(m impl.Mailbox, resource string) impl.RouteOut {
	for _, s := range m.Sessions {
		if s.Resource == resource && s.On && s.Priority >= 0 {
			return delivered(mailbox(m.Sessions), resource)
		}
	}
	return noRoute(impl.ErrNone)
}

// eachMailbox calls do with mailboxes with all numbers of kept messages that make a difference.
func eachMailbox(do func(m impl.Mailbox)) {
	eachSessions(func(l []impl.Session) {
		for _, count := range []int{0, 1, impl.MaxKept} {
			do(mailbox(l, messages(count)...))
		}
	})
}

// addressesAround returns addresses of a user with the resources of sessions, with others and with none.
func addressesAround(l []impl.Session) []string {
	list := []string{"ann@a", "ann@a/none", "ann@a/" + long(30)}
	for _, s := range l {
		list = append(list, "ann@a/"+s.Resource)
	}
	return list
}

func TestRouteConstant(t *testing.T) {
	if impl.MaxKept != 5 {
		t.Errorf("MaxKept is %d", impl.MaxKept)
	}
}

func TestExamplesOfRouting(t *testing.T) {
	m, empty := mailbox(homeAndWork()), impl.Mailbox{}
	s := impl.Stanza{Kind: "message", From: "bob@b", To: "ann@a", Body: "x"}
	checkMessage(t, m, s, delivered(m, "home"))
	checkMessage(t, empty, s, dropped(mailbox(nil, s)))
	query := impl.Stanza{Kind: "iq", Type: "get", From: "bob@b", To: "ann@a/work", Id: 3}
	checkIq(t, m, query, delivered(m, "work"))
	back := impl.Stanza{Kind: "iq", Type: "error", From: "ann@a/work", To: "bob@b", Id: 3, Body: "unavailable"}
	checkIq(t, empty, query, impl.RouteOut{Back: back})
	checkPresence(t, m, impl.Stanza{Kind: "presence", To: "ann@a"}, delivered(m, "home"))
	checkTake(t, mailbox(homeAndWork(), s), "home", delivered(m, "home"))
	checkTake(t, mailbox(homeAndWork(), s), "work", noRoute(impl.ErrNone))
}

func TestValidMailboxes(t *testing.T) {
	checkMailbox(t, impl.Mailbox{}, true)
	for _, m := range validMailboxes() {
		checkMailbox(t, m, true)
	}
	for _, m := range invalidMailboxes() {
		checkMailbox(t, m, false)
	}
	for count := range 2 * impl.MaxKept {
		checkMailbox(t, mailbox(nil, messages(count)...), count <= impl.MaxKept)
		checkMailbox(t, mailbox(mixedSessions(), messages(count)...), count <= impl.MaxKept)
	}
}

// Promise 21, for the sessions and the messages that the chapter tells apart.
func TestMessagesAreRouted(t *testing.T) {
	on := mailbox(sessions(present("away", -1, "xa"), present("home", 0, ""), bound("work")))
	below := mailbox(sessions(present("away", -1, "xa"), bound("work")), messages(2)...)
	full := mailbox(sessions(present("away", -1, "xa"), bound("work")), messages(impl.MaxKept)...)
	for _, to := range []string{"ann@a", "ann@a/none", "ann@a/work"} {
		for _, typ := range []string{"", "chat", "normal", "get", "headlines", "errors"} {
			s := stanzaTo("message", typ, to)
			checkMessage(t, on, s, delivered(on, "home"))
			checkMessage(t, below, s, keptToo(below, s))
			checkMessage(t, full, s, answered(full, s, "full"))
		}
		headline, group, fault := stanzaTo("message", "headline", to), stanzaTo("message", "groupchat", to), stanzaTo("message", "error", to)
		checkMessage(t, on, headline, delivered(on, "home"))
		for _, m := range []impl.Mailbox{below, full} {
			checkMessage(t, m, headline, dropped(m))
		}
		for _, m := range []impl.Mailbox{on, below, full} {
			checkMessage(t, m, group, answered(m, group, "unavailable"))
			checkMessage(t, m, fault, dropped(m))
		}
	}
	// A session that is named receives messages with a negative priority, too.
	for _, m := range []impl.Mailbox{on, below, full} {
		for _, typ := range []string{"", "chat", "headline", "groupchat"} {
			checkMessage(t, m, stanzaTo("message", typ, "ann@a/away"), delivered(m, "away"))
		}
		checkMessage(t, m, stanzaTo("message", "error", "ann@a/away"), dropped(m))
	}
	checkMessage(t, on, stanzaTo("message", "error", "ann@a/home"), dropped(on))
}

func TestMessagesGoToAllOfTheBest(t *testing.T) {
	for _, priority := range []int64{0, 1, 127} {
		m := mailbox(sessions(present("a", priority, ""), bound("b"), present("c", priority, "dnd"), present("d", -1, ""), present("e", priority, "")), messages(1)...)
		for _, typ := range []string{"", "chat", "headline"} {
			checkMessage(t, m, stanzaTo("message", typ, "ann@a"), delivered(m, "a", "c", "e"))
			checkMessage(t, m, stanzaTo("message", typ, "ann@a/b"), delivered(m, "a", "c", "e"))
			checkMessage(t, m, stanzaTo("message", typ, "ann@a/c"), delivered(m, "c"))
			checkMessage(t, m, stanzaTo("message", typ, "ann@a/d"), delivered(m, "d"))
		}
	}
	all := mailbox(sessions(present("a", 0, ""), present("b", 0, ""), present("c", 0, ""), present("d", 0, ""), present("e", 0, "")))
	checkMessage(t, all, stanzaTo("message", "", "ann@a/f"), delivered(all, "a", "b", "c", "d", "e"))
	one := mailbox(sessions(present("a", 1, ""), present("b", 127, ""), present("c", 126, "")))
	checkMessage(t, one, stanzaTo("message", "headline", "ann@a"), delivered(one, "b"))
}

// Promise 23, for the sessions and the types that the chapter tells apart.
func TestIqsAreRouted(t *testing.T) {
	full := messages(impl.MaxKept)
	for _, m := range []impl.Mailbox{mailbox(homeAndWork()), mailbox(sessions(present("home", -1, ""), bound("work")), full...)} {
		for _, typ := range []string{"get", "set", "result", "error", "", "gets", "se", "chat", "headline", "groupchat"} {
			checkIq(t, m, stanzaTo("iq", typ, "ann@a/home"), delivered(m, "home"))
			checkIq(t, m, stanzaTo("iq", typ, "ann@a/work"), delivered(m, "work"))
			for _, to := range []string{"ann@a", "ann@a/none", "ann@a/homE", "ann@a/hom", "ann@a/home2"} {
				s := stanzaTo("iq", typ, to)
				if typ == "get" || typ == "set" {
					checkIq(t, m, s, answered(m, s, "unavailable"))
				} else {
					checkIq(t, m, s, dropped(m))
				}
			}
		}
	}
}

// Promise 24, for the sessions that the chapter tells apart.
func TestPresencesAreRouted(t *testing.T) {
	some := mailbox(sessions(present("away", -128, "xa"), bound("car"), present("home", 0, ""), bound("work")), messages(impl.MaxKept)...)
	one := mailbox(homeAndWork())
	none := mailbox(sessions(bound("home"), bound("work")), messages(1)...)
	for _, typ := range typesOfTests() {
		check := func(m impl.Mailbox, to string, resources ...string) {
			t.Helper()
			checkPresence(t, m, stanzaTo("presence", typ, to), delivered(m, resources...))
		}
		check(some, "ann@a", "away", "home")
		check(some, "ann@a/away", "away")
		check(some, "ann@a/car")
		check(some, "ann@a/home", "home")
		check(some, "ann@a/none")
		check(one, "ann@a", "home")
		check(one, "ann@a/home", "home")
		check(one, "ann@a/work")
		check(none, "ann@a")
		check(none, "ann@a/home")
		check(impl.Mailbox{}, "ann@a")
		check(impl.Mailbox{}, "ann@a/home")
	}
}

// Every route is given stanzas of every kind and Type, to every sort of address.
func TestRoutesAgreeWithTheReference(t *testing.T) {
	for _, m := range validMailboxes() {
		for _, kind := range kindsOfTests {
			for _, typ := range typesOfTests() {
				for _, to := range append(addressesAround(m.Sessions), "", "a", "a/home") {
					s := stanzaTo(kind, typ, to)
					for _, r := range routes() {
						checkRoute(t, r, m, s, referenceRoute(r.kind, m, s))
					}
				}
			}
		}
		if t.Failed() {
			return
		}
	}
}

func TestRoutesOfAllSessions(t *testing.T) {
	eachMailbox(func(m impl.Mailbox) {
		for _, to := range addressesAround(m.Sessions) {
			for _, typ := range []string{"", "chat", "headline", "groupchat", "error", "get", "set", "result"} {
				for _, r := range routes() {
					s := stanzaTo(r.kind, typ, to)
					checkRoute(t, r, m, s, referenceRoute(r.kind, m, s))
				}
			}
		}
		for _, resource := range []string{"a", "b", "c", "d", ""} {
			checkTake(t, m, resource, referenceTake(m, resource))
		}
	})
}

func presentResources(l []impl.Session) []string {
	var list []string
	for _, s := range l {
		if s.On {
			list = append(list, s.Resource)
		}
	}
	return list
}

// Promise 21, as it is said.
func TestMessageIsDeliveredOrKeptOrAnswered(t *testing.T) {
	eachMailbox(func(m impl.Mailbox) {
		for _, typ := range []string{"", "chat", "groupchat", "headline", "error"} {
			for _, to := range addressesAround(m.Sessions) {
				s := stanzaTo("message", typ, to)
				out := impl.RouteMessage(m, s)
				for _, resource := range out.To {
					if !slices.Contains(presentResources(m.Sessions), resource) {
						t.Errorf("%q goes to %q, which is not present in %s", fields(s), resource, shownMailbox(m))
					}
				}
				ways := 0
				for _, way := range []bool{len(out.To) > 0, len(out.Mailbox.Kept) == len(m.Kept)+1, out.Back.Type == "error"} {
					if way {
						ways++
					}
				}
				// A headline is for those who are there, and an error is never answered.
				none := typ == "error" || typ == "headline" && len(impl.Best(m.Sessions)) == 0
				if ways > 1 || ways == 0 && !none {
					t.Errorf("%q in %s is treated in %d ways: %s", fields(s), shownMailbox(m), ways, shownRoute(out))
				}
				if len(out.Mailbox.Kept) > len(m.Kept) && out.Mailbox.Kept[len(m.Kept)] != s {
					t.Errorf("%q is not kept in %s", fields(s), shownRoute(out))
				}
				checkMailbox(t, out.Mailbox, true)
			}
		}
	})
}

// Promise 22, as it is said.
func TestKeptMessagesGoToTheFirstSession(t *testing.T) {
	for count := range impl.MaxKept + 1 {
		m := mailbox(sessions(present("car", -1, ""), bound("home"), bound("work")))
		sent := messages(count)
		for i, s := range sent {
			m = checkMessage(t, m, s, dropped(mailbox(m.Sessions, sent[:i+1]...))).Mailbox
		}
		for _, resource := range []string{"car", "home", "work", "none"} {
			checkTake(t, m, resource, noRoute(impl.ErrNone))
		}
		for _, priority := range []int64{0, 1, 127} {
			on := mailbox(impl.Present(m.Sessions, "work", priority, "").Sessions, m.Kept...)
			if !slices.Equal(on.Kept, sent) {
				t.Errorf("%d kept messages are %s", count, shownStanzas(on.Kept))
			}
			checkTake(t, on, "car", noRoute(impl.ErrNone))
			checkTake(t, on, "home", noRoute(impl.ErrNone))
			taken := checkTake(t, on, "work", delivered(mailbox(on.Sessions), "work")).Mailbox
			// What is taken is not taken again, and nothing is kept as long as the session is there.
			checkTake(t, taken, "work", delivered(taken, "work"))
			checkMessage(t, taken, stanzaTo("message", "", "ann@a"), delivered(taken, "work"))
		}
	}
}

// Promise 23, as it is said.
func TestQueriesAreDeliveredOrAnswered(t *testing.T) {
	eachMailbox(func(m impl.Mailbox) {
		for _, typ := range []string{"get", "set", "result", "error", ""} {
			for _, to := range addressesAround(m.Sessions) {
				s := stanzaTo("iq", typ, to)
				out := impl.RouteIq(m, s)
				_, resource := referenceTo(to)
				_, there := modelOf(m.Sessions)[resource]
				if there != slices.Equal(out.To, []string{resource}) || !there && len(out.To) > 0 {
					t.Errorf("%q goes to %q in %s", fields(s), out.To, shownMailbox(m))
				}
				query := typ == "get" || typ == "set"
				if (query && !there) != (out.Back != impl.Stanza{}) {
					t.Errorf("%q is answered by %q in %s", fields(s), fields(out.Back), shownMailbox(m))
				}
				if query && !there && (out.Back.To != s.From || out.Back.From != s.To || out.Back.Id != s.Id) {
					t.Errorf("%q is answered by %q with Id %d", fields(s), fields(out.Back), out.Back.Id)
				}
				// The answer is a response itself.
				if back := out.Back; query && !there {
					back.To = s.To
					checkIq(t, m, back, dropped(m))
				}
			}
		}
	})
}

// Promise 24, as it is said.
func TestPresenceGoesToAllOrToTheNamedSession(t *testing.T) {
	eachMailbox(func(m impl.Mailbox) {
		all := presentResources(m.Sessions)
		checkPresence(t, m, stanzaTo("presence", "", "ann@a"), delivered(m, all...))
		for _, to := range addressesAround(m.Sessions)[1:] {
			_, resource := referenceTo(to)
			out := impl.RoutePresence(m, stanzaTo("presence", "", to))
			if slices.Contains(all, resource) != slices.Equal(out.To, []string{resource}) || len(out.To) > 1 {
				t.Errorf("a presence to %q goes to %q in %s", to, out.To, shownMailbox(m))
			}
		}
	})
}

func TestAnswersToStanzas(t *testing.T) {
	m := mailbox(nil, messages(impl.MaxKept)...)
	for _, s := range []impl.Stanza{
		{To: "ann@a"}, {From: "b", To: "ann@a/x", Id: impl.MaxTime}, {From: longestAddress(), To: longestAddress(), Body: long(400)}, {From: "ann@a", To: "ann@a"},
	} {
		for _, typ := range []string{"", "chat", "full", long(20)} {
			s.Kind, s.Type = "message", typ
			checkMessage(t, m, s, answered(m, s, "full"))
		}
		s.Type = "groupchat"
		checkMessage(t, m, s, answered(m, s, "unavailable"))
		for _, typ := range []string{"get", "set"} {
			s.Kind, s.Type = "iq", typ
			checkIq(t, m, s, answered(m, s, "unavailable"))
		}
	}
}

func TestTakeKept(t *testing.T) {
	l := sessions(present("away", -1, "xa"), present("car", -128, ""), present("home", 0, ""), present("phone", 127, "dnd"), bound("work"))
	for count := range impl.MaxKept + 1 {
		m := mailbox(l, messages(count)...)
		for _, resource := range []string{"home", "phone"} {
			checkTake(t, m, resource, delivered(mailbox(l), resource))
		}
		for _, resource := range []string{"away", "car", "work", "none", "hom", "home2", "Home", "", "a/b", "ann@a/home"} {
			checkTake(t, m, resource, noRoute(impl.ErrNone))
		}
	}
	for _, m := range validMailboxes() {
		for _, resource := range resourcesAround(m.Sessions) {
			checkTake(t, m, resource, referenceTake(m, resource))
		}
		for _, resource := range textsThatAreNoResources() {
			checkTake(t, m, resource, noRoute(impl.ErrNone))
		}
	}
}

// Each of the stanzas and resources would be accepted, or give another error, with some of these mailboxes if they were valid.
func TestInvalidMailboxesAreRejected(t *testing.T) {
	wrong := noRoute(impl.ErrForm)
	for _, m := range invalidMailboxes() {
		for _, r := range routes() {
			for _, to := range []string{"ann@a", "ann@a/home", "ann@a/none", "a", ""} {
				checkRoute(t, r, m, stanzaTo(r.kind, "", to), wrong)
				checkRoute(t, r, m, stanzaTo(r.kind, "get", to), wrong)
				checkRoute(t, r, m, stanzaTo(r.kind, "error", to), wrong)
			}
			checkRoute(t, r, m, stanzaTo("db", "", "ann@a"), wrong)
			checkRoute(t, r, m, impl.Stanza{}, wrong)
		}
		for _, resource := range []string{"home", "work", "none", "", "a/b", long(impl.MaxBytes)} {
			checkTake(t, m, resource, wrong)
		}
	}
}

func TestInvalidStanzasAreRejected(t *testing.T) {
	for _, m := range []impl.Mailbox{{}, mailbox(homeAndWork()), mailbox(homeAndWork(), messages(impl.MaxKept)...), mailbox(fullSessions(), messages(1)...)} {
		for _, s := range invalidStanzas() {
			for _, r := range routes() {
				// The kind is right, unless it is what is wrong.
				changed := s
				if s.Kind == chat().Kind {
					changed.Kind = r.kind
				}
				checkRoute(t, r, m, changed, noRoute(impl.ErrForm))
			}
		}
	}
}

func TestOtherKindsAreRejected(t *testing.T) {
	for _, m := range []impl.Mailbox{{}, mailbox(homeAndWork()), mailbox(homeAndWork(), messages(impl.MaxKept)...)} {
		for _, kind := range kindsOfTests {
			for _, typ := range typesOfTests() {
				for _, to := range []string{"ann@a", "ann@a/home", "ann@a/none", "a", ""} {
					for _, r := range routes() {
						if kind != r.kind {
							checkRoute(t, r, m, stanzaTo(kind, typ, to), noRoute(impl.ErrForm))
						}
					}
				}
			}
		}
	}
}

func TestAddressesOfStanzas(t *testing.T) {
	m := mailbox(homeAndWork())
	for _, r := range routes() {
		for _, typ := range typesOfTests() {
			for _, to := range append(addressesWithoutLocal(), textsThatAreNoAddresses()...) {
				checkRoute(t, r, m, stanzaTo(r.kind, typ, to), noRoute(impl.ErrForm))
			}
		}
		// Whose mailbox it is, the mailbox does not tell.
		for _, to := range []string{"ann@a/home", "bob@b/home", "_@a.b-c/home", long(30) + "@" + long(30) + "/home"} {
			checkRoute(t, r, m, stanzaTo(r.kind, "", to), delivered(m, "home"))
		}
		// From matters only for the answer.
		for _, from := range addressesOfTests() {
			s := stanzaTo(r.kind, "", "ann@a/home")
			s.From = from
			checkRoute(t, r, m, s, delivered(m, "home"))
		}
	}
	// A resource may look like the rest of an address.
	odd := mailbox(sessions(present("@", 1, ""), present("b@c", 1, "")))
	for _, r := range routes() {
		checkRoute(t, r, odd, stanzaTo(r.kind, "", "ann@a/b@c"), delivered(odd, "b@c"))
		checkRoute(t, r, odd, stanzaTo(r.kind, "", "a/b@c"), noRoute(impl.ErrForm))
		checkRoute(t, r, odd, stanzaTo(r.kind, "", "ann@a/@"), delivered(odd, "@"))
	}
}

func TestLimitsOfRouting(t *testing.T) {
	long20000, longer := long(impl.MaxBytes), long(impl.MaxBytes+1)
	kept := messages(1)
	for _, m := range append(invalidMailboxes()[:40], impl.Mailbox{}, mailbox(homeAndWork(), kept...), mailbox(fullSessions(), kept...), mailbox(make([]impl.Session, impl.MaxList+1)), mailbox(nil, make([]impl.Stanza, impl.MaxList+1)...)) {
		checkTake(t, m, longer, noRoute(impl.ErrSize))
		want := noRoute(impl.ErrNone)
		if !impl.MailboxRight(m) {
			want = noRoute(impl.ErrForm)
		}
		checkTake(t, m, long20000, want)
	}
	// Lists and texts in a struct are not too many or too long, but invalid.
	for _, m := range []impl.Mailbox{mailbox(sessionsOfTests(impl.MaxList + 1)), mailbox(nil, messages(impl.MaxList+1)...), mailbox(sessions(bound(longer)))} {
		checkTake(t, m, "home", noRoute(impl.ErrForm))
		for _, r := range routes() {
			checkRoute(t, r, m, stanzaTo(r.kind, "", "ann@a"), noRoute(impl.ErrForm))
		}
	}
	for _, r := range routes() {
		for _, text := range []string{long20000, longer} {
			for _, s := range []impl.Stanza{stanzaTo(text, "", "ann@a"), stanzaTo(r.kind, text, "ann@a"), stanzaTo(r.kind, "", text), stanzaTo(r.kind, "", "ann@"+text), stanzaTo(r.kind, "", "ann@a/"+text)} {
				checkRoute(t, r, mailbox(homeAndWork()), s, noRoute(impl.ErrForm))
			}
		}
	}
}

// sessionsOr returns the sessions of out, or l if it has none because of an error.
func sessionsOr(l []impl.Session, out impl.SessionsOut) []impl.Session {
	if out.Code != impl.OK {
		return l
	}
	return out.Sessions
}

// routeStep returns m after a random step.
func routeStep(t *testing.T, random *rand.Rand, m impl.Mailbox) impl.Mailbox {
	resources := []string{"car", "home", "phone", "work", "none"}
	resource := resources[random.Intn(len(resources))]
	priority := prioritiesOfTests()[random.Intn(8)]
	switch random.Intn(8) {
	case 0:
		return mailbox(sessionsOr(m.Sessions, impl.Bind(m.Sessions, resource)), m.Kept...)
	case 1:
		return mailbox(sessionsOr(m.Sessions, impl.Unbind(m.Sessions, resource)), m.Kept...)
	case 2:
		return mailbox(sessionsOr(m.Sessions, impl.Present(m.Sessions, resource, priority, "")), m.Kept...)
	case 3:
		return mailbox(sessionsOr(m.Sessions, impl.Absent(m.Sessions, resource)), m.Kept...)
	case 4:
		if out := checkTake(t, m, resource, referenceTake(m, resource)); out.Code == impl.OK {
			return out.Mailbox
		}
		return m
	}
	r := routes()[random.Intn(3)]
	s := stanzaTo(r.kind, typesOfTests()[random.Intn(9)], []string{"ann@a", "ann@a/" + resource}[random.Intn(2)])
	s.Id = random.Int63n(1000)
	return checkRoute(t, r, m, s, referenceRoute(r.kind, m, s)).Mailbox
}

func TestRandomRouting(t *testing.T) {
	random := rand.New(rand.NewSource(10))
	sizes := map[int]int{}
	var m impl.Mailbox
	for range 30000 {
		m = routeStep(t, random, m)
		sizes[len(m.Kept)]++
		if t.Failed() {
			return
		}
	}
	if len(sizes) != impl.MaxKept+1 {
		t.Errorf("so many kept messages were reached: %v", sizes)
	}
}

func clonedStanza(s impl.Stanza) impl.Stanza {
	return impl.Stanza{Kind: strings.Clone(s.Kind), Type: strings.Clone(s.Type), From: strings.Clone(s.From), To: strings.Clone(s.To), Id: s.Id, Body: strings.Clone(s.Body)}
}

// textsOfMailbox returns all texts in a mailbox.
func textsOfMailbox(m impl.Mailbox) []string {
	var list []string
	for _, s := range m.Sessions {
		list = append(list, s.Resource, s.Show)
	}
	for _, s := range m.Kept {
		list = append(list, fields(s)...)
	}
	return list
}

func TestMailboxesAreNotShared(t *testing.T) {
	spare := mailbox(make([]impl.Session, 0, 20), make([]impl.Stanza, 0, 20)...)
	for _, s := range sessions(present("away", -1, "xa"), present("phone", -1, "dnd"), bound("work")) {
		s.Resource, s.Show = strings.Clone(s.Resource), strings.Clone(s.Show)
		spare.Sessions = append(spare.Sessions, s)
	}
	for _, s := range []impl.Stanza{chat(), chat(), chat()} {
		spare.Kept = append(spare.Kept, clonedStanza(s))
	}
	ready := mailbox(slices.Clone(spare.Sessions), spare.Kept...)
	ready.Sessions[1].Priority = 5
	resource := strings.Clone("phone")
	message, group := clonedStanza(stanzaTo("message", "chat", "ann@a")), clonedStanza(stanzaTo("message", "groupchat", "ann@a/none"))
	query, response := clonedStanza(stanzaTo("iq", "get", "ann@a/none")), clonedStanza(stanzaTo("iq", "result", "ann@a/phone"))
	shown := clonedStanza(stanzaTo("presence", "away", "ann@a"))
	given := append(textsOfMailbox(spare), textsOfMailbox(ready)...)
	for _, s := range []impl.Stanza{message, group, query, response, shown} {
		given = append(given, fields(s)...)
	}
	given = append(given, resource)
	sessionsBefore, keptBefore := slices.Clone(spare.Sessions[:20]), slices.Clone(spare.Kept[:20])
	for i, out := range []impl.RouteOut{
		impl.RouteMessage(spare, message), impl.RouteMessage(ready, message), impl.RouteMessage(spare, group), impl.RouteIq(spare, query), impl.RouteIq(spare, response),
		impl.RoutePresence(spare, shown), impl.TakeKept(ready, resource),
	} {
		if out.Code != impl.OK {
			t.Fatalf("call %d: code %d", i, out.Code)
		}
		texts := append(append(textsOfMailbox(out.Mailbox), out.To...), fields(out.Back)...)
		checkTextsNotShared(t, fmt.Sprintf("call %d", i), texts, given)
		clear(out.Mailbox.Sessions)
		clear(out.Mailbox.Kept)
		_, _ = append(out.Mailbox.Sessions, bound("x")), append(out.Mailbox.Kept, chat())
	}
	if !slices.Equal(spare.Sessions[:20], sessionsBefore) || !slices.Equal(spare.Kept[:20], keptBefore) {
		t.Errorf("the mailbox is changed: %s", shownMailbox(spare))
	}
}
