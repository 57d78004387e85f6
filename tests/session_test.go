package tests

import (
	"fmt"
	"math"
	"math/rand"
	"regexp"
	"slices"
	"strings"
	"testing"

	"loop.example/g00387/impl"
)

func bound(resource string) impl.Session {
	return impl.Session{Resource: resource}
}

func present(resource string, priority int64, show string) impl.Session {
	return impl.Session{Resource: resource, On: true, Priority: priority, Show: show}
}

func sessions(list ...impl.Session) []impl.Session {
	return list
}

// sessionsOfTests returns so many sessions, of which every second one is On.
func sessionsOfTests(count int) []impl.Session {
	var list []impl.Session
	for i := range count {
		resource := fmt.Sprintf("r%03d", i)
		if i%2 == 0 {
			list = append(list, bound(resource))
		} else {
			list = append(list, present(resource, int64(i%128), "dnd"))
		}
	}
	return list
}

func fullSessions() []impl.Session {
	return sessionsOfTests(impl.MaxSessions)
}

// mixedSessions has room for one more ahead of, between and behind them.
func mixedSessions() []impl.Session {
	return sessions(bound("car"), present("home", -1, ""), present("phone", 5, "away"), present("work", 5, "xa"))
}

func showsOfTests() []string {
	return []string{"", "away", "chat", "dnd", "xa"}
}

func textsThatAreNoShows() []string {
	return []string{" ", "a", "Away", "AWAY", "awa", "away ", " away", "awayy", "chat\x00", "dn", "xaa", "online", "away,chat", "\xff", long(impl.MaxBytes)}
}

func prioritiesOfTests() []int64 {
	return []int64{-128, -127, -1, 0, 1, 5, 126, 127}
}

func numbersThatAreNoPriorities() []int64 {
	return []int64{-129, 128, 255, 256, -256, 1 << 16, 1<<32 + 1, math.MinInt64, math.MaxInt64}
}

func textsThatAreNoResources() []string {
	list := []string{"", " ", "a b", "a/", "/", "a/b", "a<", ">a", "a&b", "'", "\"", "\x00", "a\n", "\x1f", "\x7f", "a\x7f", "\x80", "a\xff", "é", long(31), long(30) + "/", long(29) + " ", long(impl.MaxBytes)}
	for _, b := range "/<>&'\"" {
		list = append(list, string(b), string(b)+"a", "a"+string(b))
	}
	return list
}

// resourcesAround returns the resources of sessions, and others ahead of, between and behind them.
func resourcesAround(l []impl.Session) []string {
	list := []string{"!", "~", "a", "Z", "homE", "homf", "m", "zoe", "a@b:c", long(30), long(29)}
	for _, s := range l {
		r := s.Resource
		list = append(list, r, r[:len(r)-1], (r + "!")[:min(len(r)+1, 30)])
	}
	slices.Sort(list)
	return slices.DeleteFunc(slices.Compact(list), func(r string) bool { return r == "" })
}

func validSessions() [][]impl.Session {
	list := [][]impl.Session{
		nil, {}, sessionsOfTests(1), sessionsOfTests(impl.MaxSessions - 1), fullSessions(), mixedSessions(),
		sessions(bound("a"), bound("b")), sessions(bound("a"), bound("aa")), sessions(bound("a"), bound("a!"), bound("aa"), bound("b")),
		// The order is that of the bytes, and not that of letters or of sizes.
		sessions(bound("B"), bound("a"), bound("b")), sessions(bound("bb"), bound("c")), sessions(bound("!"), bound("9"), bound("Z"), bound("z"), bound("~")),
		sessions(bound(long(29)), bound(long(30))), sessions(present("a:b", 1, "away"), present("a@b", 1, "")),
		sessions(present("a", -128, ""), present("b", 127, "xa")), sessions(present("a", 0, ""), bound("b")),
		sessions(present("a", -1, ""), present("b", -128, ""), bound("c")),
		sessions(present("a", 0, "chat"), present("b", 0, "dnd"), present("c", -1, ""), present("d", 0, ""), bound("e")),
	}
	for _, priority := range prioritiesOfTests() {
		for _, show := range showsOfTests() {
			list = append(list, sessions(present("home", priority, show)), sessions(bound("car"), present("home", priority, show), present("work", 1, "")))
		}
	}
	return list
}

// invalidSessions returns sessions that each have one fault, at different places.
func invalidSessions() [][]impl.Session {
	list := [][]impl.Session{
		sessionsOfTests(impl.MaxSessions + 1), sessionsOfTests(impl.MaxSessions + 2), sessionsOfTests(impl.MaxList),
		sessions(bound("home"), bound("home")), sessions(bound("home"), present("home", 1, "")), sessions(bound("car"), bound("home"), bound("home"), bound("work")),
		sessions(bound("work"), bound("home")), sessions(bound("home"), bound("work"), bound("car")), sessions(bound("home"), bound("car"), bound("work")),
		sessions(bound("aa"), bound("a")), sessions(bound("a"), bound("B")), sessions(bound("car"), bound("home"), bound("car")),
		sessions(impl.Session{}), sessions(bound("car"), impl.Session{}), sessions(impl.Session{}, bound("home")),
	}
	add := func(wrong impl.Session) {
		list = append(list, sessions(wrong), sessions(bound("car"), wrong), sessions(wrong, bound("work")), sessions(bound("car"), wrong, present("work", 1, "away")))
	}
	for _, resource := range append(textsThatAreNoResources(), long(impl.MaxBytes+1)) {
		list = append(list, sessions(bound(resource)), sessions(present(resource, 1, "away")))
	}
	list = append(list, sessions(bound("car"), bound("home/")), sessions(bound("car "), bound("home")), sessions(bound("home"), bound("x"+long(30))))
	for _, priority := range numbersThatAreNoPriorities() {
		add(present("home", priority, ""))
		add(impl.Session{Resource: "home", Priority: priority})
	}
	for _, priority := range prioritiesOfTests() {
		if priority != 0 {
			add(impl.Session{Resource: "home", Priority: priority})
		}
	}
	for _, show := range append(textsThatAreNoShows(), long(impl.MaxBytes+1)) {
		add(present("home", 0, show))
		add(impl.Session{Resource: "home", Show: show})
	}
	for _, show := range showsOfTests()[1:] {
		add(impl.Session{Resource: "home", Show: show})
		add(impl.Session{Resource: "home", Priority: 1, Show: show})
	}
	return list
}

func shownSessionsOf(l []impl.Session) string {
	text := fmt.Sprintf("%d sessions:", len(l))
	for _, s := range l[:min(len(l), impl.MaxSessions+1)] {
		text += fmt.Sprintf(" {%.40q %v %d %.20q}", s.Resource, s.On, s.Priority, s.Show)
	}
	return text
}

func noSessions(code int64) impl.SessionsOut {
	return impl.SessionsOut{Code: code}
}

func checkSessionsRight(t *testing.T, l []impl.Session, want bool) {
	t.Helper()
	if got := impl.SessionsRight(l); got != want {
		t.Errorf("SessionsRight(%s): got %t, want %t", shownSessionsOf(l), got, want)
	}
}

// checkChange also tells when the sessions that the call was given are not what they were before.
func checkChange(t *testing.T, what string, l []impl.Session, call func() impl.SessionsOut, want impl.SessionsOut) []impl.Session {
	t.Helper()
	before := slices.Clone(l)
	got := call()
	if got.Code != want.Code || !slices.Equal(got.Sessions, want.Sessions) {
		t.Errorf("%s of %s: got %s with code %d, want %s with code %d", what, shownSessionsOf(l), shownSessionsOf(got.Sessions), got.Code, shownSessionsOf(want.Sessions), want.Code)
	}
	if !slices.Equal(l, before) {
		t.Errorf("%s of %s has changed them to %s", what, shownSessionsOf(before), shownSessionsOf(l))
	}
	checkSessionsRight(t, got.Sessions, true)
	return got.Sessions
}

func checkBind(t *testing.T, l []impl.Session, resource string, want impl.SessionsOut) []impl.Session {
	t.Helper()
	return checkChange(t, fmt.Sprintf("Bind %.40q", resource), l, func() impl.SessionsOut { return impl.Bind(l, resource) }, want)
}

func checkUnbind(t *testing.T, l []impl.Session, resource string, want impl.SessionsOut) []impl.Session {
	t.Helper()
	return checkChange(t, fmt.Sprintf("Unbind %.40q", resource), l, func() impl.SessionsOut { return impl.Unbind(l, resource) }, want)
}

func checkPresent(t *testing.T, l []impl.Session, resource string, priority int64, show string, want impl.SessionsOut) []impl.Session {
	t.Helper()
	what := fmt.Sprintf("Present %.40q, %d, %.20q", resource, priority, show)
	return checkChange(t, what, l, func() impl.SessionsOut { return impl.Present(l, resource, priority, show) }, want)
}

func checkAbsent(t *testing.T, l []impl.Session, resource string, want impl.SessionsOut) []impl.Session {
	t.Helper()
	return checkChange(t, fmt.Sprintf("Absent %.40q", resource), l, func() impl.SessionsOut { return impl.Absent(l, resource) }, want)
}

func checkReports(t *testing.T, l []impl.Session, best []string, anyone bool, seen string) {
	t.Helper()
	before := slices.Clone(l)
	if got := impl.Best(l); !slices.Equal(got, best) {
		t.Errorf("Best(%s): got %q, want %q", shownSessionsOf(l), got, best)
	}
	if got := impl.Anyone(l); got != anyone {
		t.Errorf("Anyone(%s): got %t, want %t", shownSessionsOf(l), got, anyone)
	}
	if got := impl.Seen(l); got != seen {
		t.Errorf("Seen(%s): got %q, want %q", shownSessionsOf(l), got, seen)
	}
	if !slices.Equal(l, before) {
		t.Errorf("%s have become %s", shownSessionsOf(before), shownSessionsOf(l))
	}
}

var resourceForm = regexp.MustCompile(`\A[!-~]{1,30}\z`)

func referenceResource(text string) bool {
	return resourceForm.MatchString(text) && !strings.ContainsAny(text, "/<>&'\"")
}

func referenceSession(s impl.Session) bool {
	if !s.On {
		return s == bound(s.Resource) && referenceResource(s.Resource)
	}
	return referenceResource(s.Resource) && s.Priority == int64(int8(s.Priority)) && slices.Contains(showsOfTests(), s.Show)
}

// model is sessions by resource, in no order.
type model map[string]impl.Session

func modelOf(l []impl.Session) model {
	m := model{}
	for _, s := range l {
		m[s.Resource] = s
	}
	return m
}

func (m model) list() []impl.Session {
	var list []impl.Session
	for _, s := range m {
		list = append(list, s)
	}
	slices.SortFunc(list, func(a, b impl.Session) int { return strings.Compare(a.Resource, b.Resource) })
	return list
}

func (m model) with(s impl.Session) impl.SessionsOut {
	m[s.Resource] = s
	return impl.SessionsOut{Sessions: m.list()}
}

func referenceBind(l []impl.Session, resource string) impl.SessionsOut {
	m := modelOf(l)
	_, there := m[resource]
	switch {
	case !referenceResource(resource):
		return noSessions(impl.ErrForm)
	case there:
		return noSessions(impl.ErrThere)
	case len(m) >= impl.MaxSessions:
		return noSessions(impl.ErrFull)
	}
	return m.with(bound(resource))
}

func referenceUnbind(l []impl.Session, resource string) impl.SessionsOut {
	m := modelOf(l)
	if _, there := m[resource]; !there {
		return noSessions(impl.ErrNone)
	}
	delete(m, resource)
	return impl.SessionsOut{Sessions: m.list()}
}

func referencePresent(l []impl.Session, resource string, priority int64, show string) impl.SessionsOut {
	m := modelOf(l)
	s := present(resource, priority, show)
	if _, there := m[resource]; !there {
		return noSessions(impl.ErrNone)
	}
	if !referenceSession(s) {
		return noSessions(impl.ErrForm)
	}
	return m.with(s)
}

func referenceAbsent(l []impl.Session, resource string) impl.SessionsOut {
	m := modelOf(l)
	if _, there := m[resource]; !there {
		return noSessions(impl.ErrNone)
	}
	return m.with(bound(resource))
}

// referenceBest looks for the priority from the greatest one down.
func referenceBest(l []impl.Session) []string {
	for priority := int64(127); priority >= 0; priority-- {
		var list []string
		for _, s := range l {
			if s.On && s.Priority == priority {
				list = append(list, s.Resource)
			}
		}
		if list != nil {
			return list
		}
	}
	return nil
}

func referenceSeen(l []impl.Session) string {
	text := ""
	for _, s := range l {
		if s.On {
			text += " " + s.Resource + ":" + s.Show
		}
	}
	return strings.TrimPrefix(text, " ")
}

func checkAllReports(t *testing.T, l []impl.Session) {
	t.Helper()
	seen := referenceSeen(l)
	checkReports(t, l, referenceBest(l), seen != "", seen)
}

func TestSessionConstant(t *testing.T) {
	if impl.MaxSessions != 5 {
		t.Errorf("MaxSessions is %d", impl.MaxSessions)
	}
}

func TestExampleOfSessions(t *testing.T) {
	l := checkBind(t, nil, "work", impl.SessionsOut{Sessions: sessions(bound("work"))})
	l = checkBind(t, l, "home", impl.SessionsOut{Sessions: sessions(bound("home"), bound("work"))})
	checkReports(t, l, nil, false, "")
	l = checkPresent(t, l, "work", 5, "away", impl.SessionsOut{Sessions: sessions(bound("home"), present("work", 5, "away"))})
	l = checkPresent(t, l, "home", -1, "", impl.SessionsOut{Sessions: sessions(present("home", -1, ""), present("work", 5, "away"))})
	checkReports(t, l, []string{"work"}, true, "home: work:away")
	l = checkAbsent(t, l, "work", impl.SessionsOut{Sessions: sessions(present("home", -1, ""), bound("work"))})
	checkReports(t, l, nil, true, "home:")
	l = checkUnbind(t, l, "home", impl.SessionsOut{Sessions: sessions(bound("work"))})
	checkUnbind(t, l, "work", impl.SessionsOut{})
}

func TestValidSessions(t *testing.T) {
	for _, l := range validSessions() {
		checkSessionsRight(t, l, true)
	}
	for _, l := range invalidSessions() {
		checkSessionsRight(t, l, false)
	}
}

func TestNumbersOfSessions(t *testing.T) {
	for count := range 2 * impl.MaxSessions {
		checkSessionsRight(t, sessionsOfTests(count), count <= impl.MaxSessions)
	}
	checkSessionsRight(t, sessionsOfTests(impl.MaxList), false)
	checkSessionsRight(t, sessionsOfTests(impl.MaxList+1), false)
}

func TestResourcesOfSessions(t *testing.T) {
	check := func(resource string) {
		t.Helper()
		want := referenceResource(resource)
		checkSessionsRight(t, sessions(bound(resource)), want)
		checkSessionsRight(t, sessions(present(resource, 1, "away")), want)
		if want {
			checkBind(t, nil, resource, impl.SessionsOut{Sessions: sessions(bound(resource))})
		} else {
			checkBind(t, nil, resource, noSessions(impl.ErrForm))
		}
		// All of them but the empty one are valid exactly if they are in a Jid.
		if resource != "" {
			checkRight(t, jid("", "a", resource), want)
		}
	}
	for size := range 40 {
		check(long(size))
	}
	for b := range 256 {
		one := string([]byte{byte(b)})
		for _, resource := range []string{one, one + "a", "a" + one, "a" + one + "a", long(29) + one, one + long(29)} {
			check(resource)
		}
	}
}

func TestOrderOfSessions(t *testing.T) {
	resources := []string{"!", "B", "a", "aa", "ab", "b", "~"}
	for i, first := range resources {
		for j, second := range resources {
			checkSessionsRight(t, sessions(bound(first), bound(second)), i < j)
			for k, third := range resources {
				checkSessionsRight(t, sessions(bound(first), present(second, 1, ""), bound(third)), i < j && j < k)
			}
		}
	}
}

func TestPrioritiesOfSessions(t *testing.T) {
	for priority := int64(-300); priority <= 300; priority++ {
		checkSessionsRight(t, sessions(present("home", priority, "")), priority >= -128 && priority <= 127)
		checkSessionsRight(t, sessions(bound("car"), present("home", priority, "xa")), priority >= -128 && priority <= 127)
		checkSessionsRight(t, sessions(impl.Session{Resource: "home", Priority: priority}), priority == 0)
		checkSessionsRight(t, sessions(present("car", 1, ""), impl.Session{Resource: "home", Priority: priority}), priority == 0)
	}
	for _, priority := range numbersThatAreNoPriorities() {
		checkSessionsRight(t, sessions(present("home", priority, "")), false)
		checkSessionsRight(t, sessions(impl.Session{Resource: "home", Priority: priority}), false)
	}
}

func TestShowsOfSessions(t *testing.T) {
	for _, show := range showsOfTests() {
		checkSessionsRight(t, sessions(present("home", 0, show)), true)
		checkSessionsRight(t, sessions(impl.Session{Resource: "home", Show: show}), show == "")
	}
	for _, show := range textsThatAreNoShows() {
		checkSessionsRight(t, sessions(present("home", 0, show)), false)
		checkSessionsRight(t, sessions(impl.Session{Resource: "home", Show: show}), false)
	}
}

func TestBind(t *testing.T) {
	for _, l := range validSessions() {
		for _, resource := range resourcesAround(l) {
			checkBind(t, l, resource, referenceBind(l, resource))
		}
	}
	l := sessions(present("b", 1, ""), bound("d"))
	checkBind(t, l, "a", impl.SessionsOut{Sessions: sessions(bound("a"), present("b", 1, ""), bound("d"))})
	checkBind(t, l, "c", impl.SessionsOut{Sessions: sessions(present("b", 1, ""), bound("c"), bound("d"))})
	checkBind(t, l, "e", impl.SessionsOut{Sessions: sessions(present("b", 1, ""), bound("d"), bound("e"))})
	checkBind(t, l, "b", noSessions(impl.ErrThere))
	checkBind(t, l, "d", noSessions(impl.ErrThere))
}

// A resource that is not valid is reported ahead of sessions that are full.
func TestBindOfInvalidResources(t *testing.T) {
	for _, l := range [][]impl.Session{nil, mixedSessions(), fullSessions()} {
		for _, resource := range textsThatAreNoResources() {
			checkBind(t, l, resource, noSessions(impl.ErrForm))
		}
	}
}

func TestBindInFullSessions(t *testing.T) {
	l := fullSessions()
	for _, s := range l {
		checkBind(t, l, s.Resource, noSessions(impl.ErrThere))
	}
	for _, resource := range []string{"a", "r0000", "r002a", "z", long(30)} {
		checkBind(t, l, resource, noSessions(impl.ErrFull))
		for _, s := range l {
			checkBind(t, impl.Unbind(l, s.Resource).Sessions, resource, modelOf(impl.Unbind(l, s.Resource).Sessions).with(bound(resource)))
		}
	}
}

func TestUnbind(t *testing.T) {
	for _, l := range validSessions() {
		for _, resource := range resourcesAround(l) {
			checkUnbind(t, l, resource, referenceUnbind(l, resource))
		}
		for _, resource := range textsThatAreNoResources() {
			checkUnbind(t, l, resource, noSessions(impl.ErrNone))
		}
	}
	l := sessions(bound("a"), present("b", 1, "dnd"), bound("c"))
	checkUnbind(t, l, "a", impl.SessionsOut{Sessions: sessions(present("b", 1, "dnd"), bound("c"))})
	checkUnbind(t, l, "b", impl.SessionsOut{Sessions: sessions(bound("a"), bound("c"))})
	checkUnbind(t, l, "c", impl.SessionsOut{Sessions: sessions(bound("a"), present("b", 1, "dnd"))})
}

func TestPresent(t *testing.T) {
	for _, l := range validSessions() {
		for _, resource := range resourcesAround(l) {
			for _, priority := range []int64{-128, -1, 0, 127, 128, -129} {
				for _, show := range []string{"", "away", "xa", "Away"} {
					checkPresent(t, l, resource, priority, show, referencePresent(l, resource, priority, show))
				}
			}
		}
	}
}

// Present replaces all that a session has announced before, whatever it was.
func TestPresentOfEveryPriorityAndShow(t *testing.T) {
	for _, before := range []impl.Session{bound("home"), present("home", 0, ""), present("home", -128, "xa"), present("home", 127, "away")} {
		for _, show := range showsOfTests() {
			for _, priority := range prioritiesOfTests() {
				l := sessions(bound("car"), before, present("work", 3, "dnd"))
				checkPresent(t, l, "home", priority, show, impl.SessionsOut{Sessions: sessions(bound("car"), present("home", priority, show), present("work", 3, "dnd"))})
			}
		}
	}
}

// What cannot be announced is reported behind a resource that is not there.
func TestPresentOfInvalidPrioritiesAndShows(t *testing.T) {
	for _, l := range [][]impl.Session{nil, mixedSessions(), fullSessions()} {
		for _, resource := range resourcesAround(l) {
			want := noSessions(impl.ErrNone)
			if _, there := modelOf(l)[resource]; there {
				want = noSessions(impl.ErrForm)
			}
			for _, priority := range numbersThatAreNoPriorities() {
				checkPresent(t, l, resource, priority, "", want)
				checkPresent(t, l, resource, priority, "away", want)
				checkPresent(t, l, resource, priority, "Away", want)
			}
			for _, show := range textsThatAreNoShows() {
				checkPresent(t, l, resource, 0, show, want)
				checkPresent(t, l, resource, 127, show, want)
			}
		}
		for _, resource := range textsThatAreNoResources() {
			checkPresent(t, l, resource, 0, "", noSessions(impl.ErrNone))
			checkPresent(t, l, resource, 128, "", noSessions(impl.ErrNone))
			checkPresent(t, l, resource, 0, "Away", noSessions(impl.ErrNone))
		}
	}
}

func TestAbsent(t *testing.T) {
	for _, l := range validSessions() {
		for _, resource := range resourcesAround(l) {
			checkAbsent(t, l, resource, referenceAbsent(l, resource))
		}
		for _, resource := range textsThatAreNoResources() {
			checkAbsent(t, l, resource, noSessions(impl.ErrNone))
		}
	}
	l := sessions(bound("a"), present("b", 127, "dnd"), present("c", -128, ""))
	checkAbsent(t, l, "a", impl.SessionsOut{Sessions: l})
	checkAbsent(t, l, "b", impl.SessionsOut{Sessions: sessions(bound("a"), bound("b"), present("c", -128, ""))})
	checkAbsent(t, l, "c", impl.SessionsOut{Sessions: sessions(bound("a"), present("b", 127, "dnd"), bound("c"))})
}

func TestReportsOfSessions(t *testing.T) {
	checkReports(t, nil, nil, false, "")
	checkReports(t, sessions(bound("a")), nil, false, "")
	checkReports(t, sessions(bound("a"), bound("b")), nil, false, "")
	checkReports(t, sessions(present("a", 0, "")), []string{"a"}, true, "a:")
	checkReports(t, sessions(present("a", -1, "")), nil, true, "a:")
	checkReports(t, sessions(present("a", -128, "dnd"), present("b", -1, "chat")), nil, true, "a:dnd b:chat")
	checkReports(t, sessions(bound("a"), present("b", -1, "")), nil, true, "b:")
	checkReports(t, sessions(bound("a"), present("b", 0, "")), []string{"b"}, true, "b:")
	checkReports(t, sessions(present("a", 127, ""), bound("b")), []string{"a"}, true, "a:")
	checkReports(t, sessions(present("a", 2, ""), present("b", 10, "away")), []string{"b"}, true, "a: b:away")
	checkReports(t, sessions(present("a", 2, "xa"), present("b", 1, ""), bound("c"), present("d", 2, ""), present("e", -1, "")), []string{"a", "d"}, true, "a:xa b: d: e:")
	checkReports(t, sessions(present("a", 0, ""), present("b", 0, ""), present("c", 0, ""), present("d", 0, ""), present("e", 0, "")), []string{"a", "b", "c", "d", "e"}, true, "a: b: c: d: e:")
	checkReports(t, sessions(bound("a"), present("a:b", 1, ""), present("c:", 1, "dnd")), []string{"a:b", "c:"}, true, "a:b: c::dnd")
	for _, l := range validSessions() {
		checkAllReports(t, l)
	}
}

// eachSessions calls do with all sessions of up to three resources, each of which is not On or has one of these priorities.
func eachSessions(do func(l []impl.Session)) {
	choices := func(resource string) []impl.Session {
		list := sessions(impl.Session{}, bound(resource))
		for i, priority := range []int64{-128, -2, -1, 0, 1, 2, 127} {
			list = append(list, present(resource, priority, showsOfTests()[i%5]))
		}
		return list
	}
	for _, a := range choices("a") {
		for _, b := range choices("b") {
			for _, c := range choices("c") {
				l := sessions(a, b, c)
				do(slices.DeleteFunc(l, func(s impl.Session) bool { return s.Resource == "" }))
			}
		}
	}
}

func TestBestSessions(t *testing.T) {
	eachSessions(func(l []impl.Session) {
		checkAllReports(t, l)
		best := impl.Best(l)
		greatest := int64(-1)
		for _, resource := range best {
			s := modelOf(l)[resource]
			if !s.On || s.Priority < 0 || greatest >= 0 && s.Priority != greatest {
				t.Errorf("Best(%s) has %q", shownSessionsOf(l), resource)
			}
			greatest = s.Priority
		}
		for _, s := range l {
			if s.On && (s.Priority > greatest || s.Priority == greatest && greatest >= 0 && !slices.Contains(best, s.Resource)) {
				t.Errorf("Best(%s) is %q, which are not better than %q", shownSessionsOf(l), best, s.Resource)
			}
		}
	})
}

func TestBoundAndUnboundSessionsAreUnchanged(t *testing.T) {
	check := func(l []impl.Session) {
		for _, resource := range []string{"!", "a", "aa", "b", "bb", "c", "home", "~", long(30)} {
			more := impl.Bind(l, resource)
			if _, there := modelOf(l)[resource]; !there && len(l) < impl.MaxSessions {
				checkUnbind(t, more.Sessions, resource, impl.SessionsOut{Sessions: l})
				checkReports(t, more.Sessions, impl.Best(l), impl.Anyone(l), impl.Seen(l))
			} else if more.Code == impl.OK {
				t.Errorf("%q is bound to %s", resource, shownSessionsOf(l))
			}
		}
		for _, s := range l {
			less := impl.Unbind(l, s.Resource).Sessions
			back := checkBind(t, less, s.Resource, modelOf(l).with(bound(s.Resource)))
			if s.On {
				back = checkPresent(t, back, s.Resource, s.Priority, s.Show, impl.SessionsOut{Sessions: l})
			}
			if !slices.Equal(back, l) {
				t.Errorf("%q of %s is unbound and bound: got %s", s.Resource, shownSessionsOf(l), shownSessionsOf(back))
			}
		}
	}
	for _, l := range validSessions() {
		check(l)
	}
	eachSessions(check)
}

func TestPresentSessionsAreSeen(t *testing.T) {
	check := func(l []impl.Session) {
		for _, s := range l {
			for _, show := range showsOfTests() {
				on := impl.Present(l, s.Resource, -128, show).Sessions
				if !impl.Anyone(on) || !slices.Contains(strings.Split(impl.Seen(on), " "), s.Resource+":"+show) {
					t.Errorf("%q with %q is not seen in %q", s.Resource, show, impl.Seen(on))
				}
				off := impl.Absent(on, s.Resource).Sessions
				if slices.Contains(strings.Split(impl.Seen(off), " "), s.Resource+":"+show) {
					t.Errorf("%q is absent and seen in %q", s.Resource, impl.Seen(off))
				}
			}
		}
	}
	for _, l := range validSessions() {
		check(l)
	}
	eachSessions(check)
}

// Each of the resources would give another error, too, with some of these sessions if they were valid.
func TestInvalidSessionsAreRejected(t *testing.T) {
	wrong := noSessions(impl.ErrForm)
	list := append(invalidSessions(), sessions(present("a", 1, ""), bound("b"), bound("c"), bound("home"), bound("d")), sessions(bound("a"), bound("b"), bound("c"), bound("home"), present("work", 128, "")))
	for _, l := range list {
		checkReports(t, l, nil, false, "")
		for _, resource := range []string{"home", "car", "work", "a", "r000", "r005", "new", "", "a/b", long(31)} {
			checkBind(t, l, resource, wrong)
			checkUnbind(t, l, resource, wrong)
			checkAbsent(t, l, resource, wrong)
			checkPresent(t, l, resource, 1, "away", wrong)
			checkPresent(t, l, resource, 128, "", wrong)
			checkPresent(t, l, resource, 0, "Away", wrong)
		}
	}
}

// checkSize applies all functions with a code to arguments of which at least one is over its limit.
func checkSize(t *testing.T, l []impl.Session, resource string) {
	t.Helper()
	big := noSessions(impl.ErrSize)
	checkBind(t, l, resource, big)
	checkUnbind(t, l, resource, big)
	checkAbsent(t, l, resource, big)
	checkPresent(t, l, resource, 1, "away", big)
	checkPresent(t, l, resource, 128, "Away", big)
}

func TestLimitsOfSessions(t *testing.T) {
	tooMany := sessionsOfTests(impl.MaxList + 1)
	tooLong := long(impl.MaxBytes + 1)
	// Sessions that a part is too long of are invalid, and not too many.
	for _, l := range [][]impl.Session{nil, mixedSessions(), fullSessions(), sessions(bound("b"), bound("a")), sessionsOfTests(impl.MaxList), tooMany, sessions(bound(tooLong)), make([]impl.Session, 2*impl.MaxList)} {
		checkSize(t, l, tooLong)
		for _, resource := range []string{"home", "r000", "", "a/b", tooLong} {
			checkPresent(t, l, resource, 1, tooLong, noSessions(impl.ErrSize))
			checkPresent(t, l, resource, 128, tooLong, noSessions(impl.ErrSize))
		}
	}
	for _, l := range [][]impl.Session{tooMany, make([]impl.Session, impl.MaxList+1)} {
		checkReports(t, l, nil, false, "")
		for _, resource := range []string{"r000", "new", "", "a/b", long(impl.MaxBytes)} {
			checkSize(t, l, resource)
		}
	}
	longest := long(impl.MaxBytes)
	checkBind(t, nil, longest, noSessions(impl.ErrForm))
	checkUnbind(t, nil, longest, noSessions(impl.ErrNone))
	checkAbsent(t, mixedSessions(), longest, noSessions(impl.ErrNone))
	checkPresent(t, mixedSessions(), longest, 1, longest, noSessions(impl.ErrNone))
	checkPresent(t, mixedSessions(), "home", 1, longest, noSessions(impl.ErrForm))
}

func TestRandomSessions(t *testing.T) {
	random := rand.New(rand.NewSource(9))
	resources := []string{"a", "aa", "b", "c", "home", "phone", "work", "", "a b"}
	priorities := append(prioritiesOfTests(), 128, -129)
	shows := append(showsOfTests(), "Away")
	var l []impl.Session
	for range 20000 {
		resource := resources[random.Intn(len(resources))]
		priority := priorities[random.Intn(len(priorities))]
		show := shows[random.Intn(len(shows))]
		var want impl.SessionsOut
		switch random.Intn(5) {
		case 0, 1:
			want = referenceBind(l, resource)
			checkBind(t, l, resource, want)
		case 2:
			want = referenceUnbind(l, resource)
			checkUnbind(t, l, resource, want)
		case 3:
			want = referencePresent(l, resource, priority, show)
			checkPresent(t, l, resource, priority, show, want)
		default:
			want = referenceAbsent(l, resource)
			checkAbsent(t, l, resource, want)
		}
		// After an error the sessions stay as they were, so that full ones are reached.
		if want.Code == impl.OK {
			l = want.Sessions
		}
		checkAllReports(t, l)
		if t.Failed() {
			return
		}
	}
}

func TestSessionsAreNotShared(t *testing.T) {
	spare := make([]impl.Session, 0, 20)
	for _, s := range mixedSessions() {
		s.Resource, s.Show = strings.Clone(s.Resource), strings.Clone(s.Show)
		spare = append(spare, s)
	}
	before := slices.Clone(spare[:cap(spare)])
	resource, show := strings.Clone("new"), strings.Clone("away")
	given := append(slices.Clone(spare), present(resource, 0, show))
	given = append(given, present(strings.Clone("phone"), 0, ""))
	there := given[len(given)-1].Resource
	shares := func(text string) bool {
		return slices.ContainsFunc(given, func(s impl.Session) bool {
			return sharesText(text, s.Resource) || sharesText(text, s.Show)
		})
	}
	for i, out := range []impl.SessionsOut{
		impl.Bind(spare, resource), impl.Unbind(spare, there), impl.Unbind(spare, "work"), impl.Absent(spare, there),
		impl.Present(spare, there, 1, show), impl.Absent(spare, "car"),
	} {
		if out.Code != impl.OK {
			t.Fatalf("call %d: code %d", i, out.Code)
		}
		for at, s := range out.Sessions {
			if shares(s.Resource) || shares(s.Show) {
				t.Errorf("call %d: a text of session %d is shared", i, at)
			}
			out.Sessions[at] = impl.Session{}
		}
		_ = append(out.Sessions, bound("x"))
	}
	best := impl.Best(spare)
	if len(best) != 2 || slices.ContainsFunc(best, shares) || shares(impl.Seen(spare[:3])) {
		t.Errorf("a text of Best or Seen is shared: %q", best)
	}
	if !slices.Equal(spare[:cap(spare)], before) {
		t.Errorf("the sessions are changed: %v", spare[:cap(spare)])
	}
}
