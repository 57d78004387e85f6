package tests

import (
	"math"
	"math/rand"
	"slices"
	"testing"

	"loop.example/g00387/impl"
)

// kindsOfSubs are the four kinds, and those beside them.
func kindsOfSubs() []int64 {
	return []int64{math.MinInt64, -1, 0, impl.SubAsk, impl.SubGrant, impl.SubLeave, impl.SubDeny, 5, 1<<32 + impl.SubAsk, math.MaxInt64}
}

func numbersOfHalves() []int64 {
	return []int64{math.MinInt64, -1, 0, 1, 2, 3, impl.MaxTime - 1, impl.MaxTime, impl.MaxTime + 1, math.MaxInt64}
}

func ask(n int64) impl.Sub {
	return impl.Sub{Kind: impl.SubAsk, N: n}
}

func grant(n int64) impl.Sub {
	return impl.Sub{Kind: impl.SubGrant, N: n}
}

func leave(n int64) impl.Sub {
	return impl.Sub{Kind: impl.SubLeave, N: n}
}

func deny(n int64) impl.Sub {
	return impl.Sub{Kind: impl.SubDeny, N: n}
}

// eachHalf calls do with every half of the numbers of tests, nearly all of which are invalid, up to a failure.
func eachHalf(t *testing.T, do func(h impl.Half)) {
	for _, next := range numbersOfHalves() {
		for _, out := range numbersOfHalves() {
			for _, to := range numbersOfHalves() {
				for _, in := range numbersOfHalves() {
					for _, from := range numbersOfHalves() {
						if t.Failed() {
							return
						}
						do(impl.Half{Next: next, Out: out, To: to, In: in, From: from})
					}
				}
			}
		}
	}
}

func eachValidHalf(t *testing.T, do func(h impl.Half)) {
	eachHalf(t, func(h impl.Half) {
		if referenceHalfRight(h) {
			do(h)
		}
	})
}

func eachSub(do func(s impl.Sub)) {
	for _, kind := range kindsOfSubs() {
		for _, n := range numbersOfHalves() {
			do(impl.Sub{Kind: kind, N: n})
		}
	}
}

func isOneOfFour(kind int64) bool {
	return slices.Contains([]int64{impl.SubAsk, impl.SubGrant, impl.SubLeave, impl.SubDeny}, kind)
}

func referenceHalfRight(h impl.Half) bool {
	for _, n := range []int64{h.Next, h.Out, h.To, h.In, h.From} {
		if n < 0 || n > impl.MaxTime {
			return false
		}
	}
	return h.Out <= h.Next && h.To <= h.Next && h.Out*h.To == 0 && h.In*h.From == 0
}

func failed(code int64) impl.HalfOut {
	return impl.HalfOut{Code: code}
}

func halfAnd(h impl.Half, send ...impl.Sub) impl.HalfOut {
	return impl.HalfOut{Half: h, Send: send}
}

// referenceSay writes the half behind each action out in full.
func referenceSay(h impl.Half, kind int64) impl.HalfOut {
	own, others := h.Out+h.To, h.In+h.From
	switch {
	case !referenceHalfRight(h) || !isOneOfFour(kind):
		return failed(impl.ErrForm)
	case kind == impl.SubAsk && own > 0, kind == impl.SubLeave && own == 0, kind == impl.SubGrant && h.In == 0, kind == impl.SubDeny && others == 0:
		return failed(impl.ErrState)
	case kind == impl.SubAsk && h.Next == impl.MaxTime:
		return failed(impl.ErrFull)
	case kind == impl.SubAsk:
		return halfAnd(impl.Half{Next: h.Next + 1, Out: h.Next + 1, In: h.In, From: h.From}, ask(h.Next+1))
	case kind == impl.SubLeave:
		return halfAnd(impl.Half{Next: h.Next, In: h.In, From: h.From}, leave(own))
	case kind == impl.SubGrant:
		return halfAnd(impl.Half{Next: h.Next, Out: h.Out, To: h.To, From: h.In}, grant(h.In))
	}
	return halfAnd(impl.Half{Next: h.Next, Out: h.Out, To: h.To}, deny(others))
}

func referenceHear(h impl.Half, s impl.Sub) impl.HalfOut {
	switch {
	case !referenceHalfRight(h) || !isOneOfFour(s.Kind) || s.N < 1 || s.N > impl.MaxTime:
		return failed(impl.ErrForm)
	case s.Kind == impl.SubAsk:
		return halfAnd(impl.Half{Next: h.Next, Out: h.Out, To: h.To, In: s.N})
	case s.Kind == impl.SubGrant && s.N == h.Out:
		return halfAnd(impl.Half{Next: h.Next, To: s.N, In: h.In, From: h.From})
	case s.Kind == impl.SubLeave && s.N == h.In+h.From:
		return halfAnd(impl.Half{Next: h.Next, Out: h.Out, To: h.To})
	case s.Kind == impl.SubDeny && s.N == h.Out+h.To:
		return halfAnd(impl.Half{Next: h.Next, In: h.In, From: h.From})
	}
	return halfAnd(h)
}

func referenceDrop(h impl.Half) impl.HalfOut {
	if !referenceHalfRight(h) {
		return failed(impl.ErrForm)
	}
	out := halfAnd(impl.Half{Next: h.Next})
	if h.Out+h.To > 0 {
		out.Send = append(out.Send, leave(h.Out+h.To))
	}
	if h.In+h.From > 0 {
		out.Send = append(out.Send, deny(h.In+h.From))
	}
	return out
}

// referenceNames returns what HalfShow and HalfName return, by which of the four numbers are not 0.
func referenceNames(h impl.Half) (string, string) {
	if !referenceHalfRight(h) {
		return "", ""
	}
	type numbers struct{ out, to, in, from bool }
	names := map[numbers][2]string{
		{}:                      {"none", "none"},
		{out: true}:             {"none", "none+out"},
		{in: true}:              {"none", "none+in"},
		{out: true, in: true}:   {"none", "none+out+in"},
		{to: true}:              {"to", "to"},
		{to: true, in: true}:    {"to", "to+in"},
		{from: true}:            {"from", "from"},
		{out: true, from: true}: {"from", "from+out"},
		{to: true, from: true}:  {"both", "both"},
	}
	both := names[numbers{out: h.Out != 0, to: h.To != 0, in: h.In != 0, from: h.From != 0}]
	return both[0], both[1]
}

func sameHalfOut(a impl.HalfOut, b impl.HalfOut) bool {
	return a.Half == b.Half && a.Code == b.Code && slices.Equal(a.Send, b.Send)
}

func checkSay(t *testing.T, h impl.Half, kind int64, want impl.HalfOut) {
	t.Helper()
	if got := impl.HalfSay(h, kind); !sameHalfOut(got, want) {
		t.Errorf("HalfSay(%+v, %d): got %+v, want %+v", h, kind, got, want)
	}
}

func checkHear(t *testing.T, h impl.Half, s impl.Sub, want impl.HalfOut) {
	t.Helper()
	if got := impl.HalfHear(h, s); !sameHalfOut(got, want) {
		t.Errorf("HalfHear(%+v, %+v): got %+v, want %+v", h, s, got, want)
	}
}

func checkHalfDrop(t *testing.T, h impl.Half, want impl.HalfOut) {
	t.Helper()
	if got := impl.HalfDrop(h); !sameHalfOut(got, want) {
		t.Errorf("HalfDrop(%+v): got %+v, want %+v", h, got, want)
	}
}

func checkNames(t *testing.T, h impl.Half, show string, name string) {
	t.Helper()
	if got := impl.HalfShow(h); got != show {
		t.Errorf("HalfShow(%+v): got %q, want %q", h, got, show)
	}
	if got := impl.HalfName(h); got != name {
		t.Errorf("HalfName(%+v): got %q, want %q", h, got, name)
	}
}

func checkHalf(t *testing.T, h impl.Half, want bool) {
	t.Helper()
	if got := impl.HalfRight(h); got != want {
		t.Errorf("HalfRight(%+v): got %t, want %t", h, got, want)
	}
}

func TestSubConstants(t *testing.T) {
	got := []int64{impl.SubAsk, impl.SubGrant, impl.SubLeave, impl.SubDeny}
	if want := []int64{1, 2, 3, 4}; !slices.Equal(got, want) {
		t.Errorf("kinds of Subs: got %v, want %v", got, want)
	}
}

func TestExampleOfHalves(t *testing.T) {
	checkSay(t, impl.Half{}, impl.SubAsk, halfAnd(impl.Half{Next: 1, Out: 1}, ask(1)))
	checkNames(t, impl.Half{Next: 1, Out: 1}, "none", "none+out")
	checkHear(t, impl.Half{}, ask(1), halfAnd(impl.Half{In: 1}))
	checkNames(t, impl.Half{In: 1}, "none", "none+in")
	checkSay(t, impl.Half{In: 1}, impl.SubGrant, halfAnd(impl.Half{From: 1}, grant(1)))
	checkHear(t, impl.Half{Next: 1, Out: 1}, grant(1), halfAnd(impl.Half{Next: 1, To: 1}))
	checkNames(t, impl.Half{Next: 1, To: 1}, "to", "to")
	checkNames(t, impl.Half{From: 1}, "from", "from")
	checkHalfDrop(t, impl.Half{Next: 1, To: 1}, halfAnd(impl.Half{Next: 1}, leave(1)))
	checkHear(t, impl.Half{From: 1}, leave(1), halfAnd(impl.Half{}))
}

func TestValidHalves(t *testing.T) {
	for _, h := range []impl.Half{
		{}, {Next: 1}, {Next: impl.MaxTime},
		{Next: 7, Out: 1}, {Next: 7, Out: 7}, {Next: 7, To: 1}, {Next: 7, To: 7}, {Next: impl.MaxTime, Out: impl.MaxTime}, {Next: impl.MaxTime, To: impl.MaxTime},
		{In: 1}, {In: impl.MaxTime}, {From: 1}, {From: impl.MaxTime}, {Next: 7, In: 8}, {Next: 7, From: 8},
		{Next: 7, Out: 3, In: 9}, {Next: 7, Out: 3, From: 9}, {Next: 7, To: 3, In: 9}, {Next: 7, To: 3, From: 9}, {Next: 7, To: 7, From: 7},
	} {
		checkHalf(t, h, true)
	}
	for _, h := range []impl.Half{
		{Next: -1}, {Next: impl.MaxTime + 1}, {Next: math.MinInt64}, {Next: math.MaxInt64}, {Next: 1 << 32},
		{Out: 1}, {To: 1}, {Next: 7, Out: 8}, {Next: 7, To: 8}, {Next: 7, Out: -1}, {Next: 7, To: -1}, {Next: impl.MaxTime, Out: impl.MaxTime + 1}, {Next: impl.MaxTime, To: impl.MaxTime + 1},
		{Next: 7, Out: 1, To: 2}, {Next: 7, Out: 2, To: 1}, {Next: 7, Out: 7, To: 7}, {Next: 7, Out: -1, To: 1}, {Next: 7, Out: 1, To: -1}, {Next: 7, Out: -1, To: -1},
		{In: -1}, {From: -1}, {In: impl.MaxTime + 1}, {From: impl.MaxTime + 1}, {In: math.MinInt64}, {From: math.MaxInt64},
		{In: 1, From: 2}, {In: 2, From: 1}, {In: 1, From: 1}, {In: -1, From: 1}, {In: 1, From: -1}, {In: -1, From: -1},
	} {
		checkHalf(t, h, false)
	}
	eachHalf(t, func(h impl.Half) { checkHalf(t, h, referenceHalfRight(h)) })
}

func TestSayAsk(t *testing.T) {
	checkSay(t, impl.Half{Next: 7}, impl.SubAsk, halfAnd(impl.Half{Next: 8, Out: 8}, ask(8)))
	checkSay(t, impl.Half{Next: 7, In: 3}, impl.SubAsk, halfAnd(impl.Half{Next: 8, Out: 8, In: 3}, ask(8)))
	checkSay(t, impl.Half{Next: 7, From: 9}, impl.SubAsk, halfAnd(impl.Half{Next: 8, Out: 8, From: 9}, ask(8)))
	checkSay(t, impl.Half{Next: impl.MaxTime - 1}, impl.SubAsk, halfAnd(impl.Half{Next: impl.MaxTime, Out: impl.MaxTime}, ask(impl.MaxTime)))
	checkSay(t, impl.Half{Next: impl.MaxTime}, impl.SubAsk, failed(impl.ErrFull))
	checkSay(t, impl.Half{Next: impl.MaxTime, In: 1}, impl.SubAsk, failed(impl.ErrFull))
	for _, next := range []int64{7, impl.MaxTime} {
		checkSay(t, impl.Half{Next: next, Out: 3}, impl.SubAsk, failed(impl.ErrState))
		checkSay(t, impl.Half{Next: next, To: 3}, impl.SubAsk, failed(impl.ErrState))
		checkSay(t, impl.Half{Next: next, Out: next}, impl.SubAsk, failed(impl.ErrState))
		checkSay(t, impl.Half{Next: next, To: next, From: 2}, impl.SubAsk, failed(impl.ErrState))
	}
}

func TestSayGrant(t *testing.T) {
	checkSay(t, impl.Half{Next: 7, In: 9}, impl.SubGrant, halfAnd(impl.Half{Next: 7, From: 9}, grant(9)))
	checkSay(t, impl.Half{Next: 7, Out: 4, In: 9}, impl.SubGrant, halfAnd(impl.Half{Next: 7, Out: 4, From: 9}, grant(9)))
	checkSay(t, impl.Half{Next: 7, To: 4, In: impl.MaxTime}, impl.SubGrant, halfAnd(impl.Half{Next: 7, To: 4, From: impl.MaxTime}, grant(impl.MaxTime)))
	checkSay(t, impl.Half{Next: impl.MaxTime, In: 9}, impl.SubGrant, halfAnd(impl.Half{Next: impl.MaxTime, From: 9}, grant(9)))
	for _, h := range []impl.Half{{}, {Next: 7, Out: 4}, {Next: 7, To: 4}, {From: 9}, {Next: 7, To: 4, From: 9}, {Next: impl.MaxTime}} {
		checkSay(t, h, impl.SubGrant, failed(impl.ErrState))
	}
}

func TestSayLeave(t *testing.T) {
	checkSay(t, impl.Half{Next: 7, Out: 4}, impl.SubLeave, halfAnd(impl.Half{Next: 7}, leave(4)))
	checkSay(t, impl.Half{Next: 7, To: 4}, impl.SubLeave, halfAnd(impl.Half{Next: 7}, leave(4)))
	checkSay(t, impl.Half{Next: 7, To: 4, In: 9}, impl.SubLeave, halfAnd(impl.Half{Next: 7, In: 9}, leave(4)))
	checkSay(t, impl.Half{Next: impl.MaxTime, Out: impl.MaxTime, From: 9}, impl.SubLeave, halfAnd(impl.Half{Next: impl.MaxTime, From: 9}, leave(impl.MaxTime)))
	for _, h := range []impl.Half{{}, {Next: 7}, {In: 9}, {From: 9}, {Next: impl.MaxTime, In: 9}} {
		checkSay(t, h, impl.SubLeave, failed(impl.ErrState))
	}
}

func TestSayDeny(t *testing.T) {
	checkSay(t, impl.Half{Next: 7, In: 9}, impl.SubDeny, halfAnd(impl.Half{Next: 7}, deny(9)))
	checkSay(t, impl.Half{Next: 7, From: 9}, impl.SubDeny, halfAnd(impl.Half{Next: 7}, deny(9)))
	checkSay(t, impl.Half{Next: 7, To: 4, From: 9}, impl.SubDeny, halfAnd(impl.Half{Next: 7, To: 4}, deny(9)))
	checkSay(t, impl.Half{Next: impl.MaxTime, Out: 4, In: impl.MaxTime}, impl.SubDeny, halfAnd(impl.Half{Next: impl.MaxTime, Out: 4}, deny(impl.MaxTime)))
	for _, h := range []impl.Half{{}, {Next: 7, Out: 4}, {Next: 7, To: 4}, {Next: impl.MaxTime}} {
		checkSay(t, h, impl.SubDeny, failed(impl.ErrState))
	}
}

func TestSayOfOtherKinds(t *testing.T) {
	for _, kind := range kindsOfSubs() {
		if !isOneOfFour(kind) {
			checkSay(t, impl.Half{Next: 7, Out: 4, In: 9}, kind, failed(impl.ErrForm))
			checkSay(t, impl.Half{Next: impl.MaxTime}, kind, failed(impl.ErrForm))
			checkSay(t, impl.Half{}, kind, failed(impl.ErrForm))
		}
	}
}

func TestSayInEveryState(t *testing.T) {
	eachHalf(t, func(h impl.Half) {
		for _, kind := range kindsOfSubs() {
			checkSay(t, h, kind, referenceSay(h, kind))
		}
	})
}

func TestHearAsk(t *testing.T) {
	for _, n := range []int64{1, 3, 9, 10, impl.MaxTime} {
		checkHear(t, impl.Half{}, ask(n), halfAnd(impl.Half{In: n}))
		checkHear(t, impl.Half{Next: 7, Out: 3, In: 9}, ask(n), halfAnd(impl.Half{Next: 7, Out: 3, In: n}))
		checkHear(t, impl.Half{Next: 7, To: 3, From: 9}, ask(n), halfAnd(impl.Half{Next: 7, To: 3, In: n}))
	}
}

func TestHearGrant(t *testing.T) {
	checkHear(t, impl.Half{Next: 7, Out: 3}, grant(3), halfAnd(impl.Half{Next: 7, To: 3}))
	checkHear(t, impl.Half{Next: 7, Out: 3, In: 9}, grant(3), halfAnd(impl.Half{Next: 7, To: 3, In: 9}))
	checkHear(t, impl.Half{Next: impl.MaxTime, Out: impl.MaxTime, From: 9}, grant(impl.MaxTime), halfAnd(impl.Half{Next: impl.MaxTime, To: impl.MaxTime, From: 9}))
	for _, h := range []impl.Half{{}, {Next: 7}, {Next: 7, Out: 3}, {Next: 7, To: 3}, {Next: 7, Out: 4, In: 9}, {In: 9}, {From: 9}} {
		for _, n := range []int64{1, 2, 9, impl.MaxTime} {
			checkHear(t, h, grant(n), halfAnd(h))
		}
	}
	checkHear(t, impl.Half{Next: 7, To: 3}, grant(3), halfAnd(impl.Half{Next: 7, To: 3}))
}

func TestHearLeave(t *testing.T) {
	checkHear(t, impl.Half{Next: 7, In: 9}, leave(9), halfAnd(impl.Half{Next: 7}))
	checkHear(t, impl.Half{Next: 7, From: 9}, leave(9), halfAnd(impl.Half{Next: 7}))
	checkHear(t, impl.Half{Next: 9, To: 9, From: 9}, leave(9), halfAnd(impl.Half{Next: 9, To: 9}))
	checkHear(t, impl.Half{Next: 9, Out: 9, In: 9}, leave(9), halfAnd(impl.Half{Next: 9, Out: 9}))
	for _, h := range []impl.Half{{}, {Next: 7, In: 9}, {Next: 7, From: 9}, {Next: 7, Out: 3}, {Next: 7, To: 3}, {Next: 7, To: 3, In: 9}} {
		for _, n := range []int64{1, 3, 8, 10, impl.MaxTime} {
			checkHear(t, h, leave(n), halfAnd(h))
		}
	}
}

func TestHearDeny(t *testing.T) {
	checkHear(t, impl.Half{Next: 7, Out: 3}, deny(3), halfAnd(impl.Half{Next: 7}))
	checkHear(t, impl.Half{Next: 7, To: 3}, deny(3), halfAnd(impl.Half{Next: 7}))
	checkHear(t, impl.Half{Next: 9, To: 9, From: 9}, deny(9), halfAnd(impl.Half{Next: 9, From: 9}))
	checkHear(t, impl.Half{Next: 9, Out: 9, In: 9}, deny(9), halfAnd(impl.Half{Next: 9, In: 9}))
	for _, h := range []impl.Half{{}, {Next: 7, Out: 3}, {Next: 7, To: 3}, {Next: 7, In: 9}, {Next: 7, From: 9}, {Next: 7, To: 3, In: 9}} {
		for _, n := range []int64{1, 2, 4, 9, impl.MaxTime} {
			checkHear(t, h, deny(n), halfAnd(h))
		}
	}
}

func TestHearOfInvalidSubs(t *testing.T) {
	for _, h := range []impl.Half{{}, {Next: 7, Out: 3, In: 9}, {Next: 7, To: 3, From: 9}} {
		for _, kind := range kindsOfSubs() {
			for _, n := range []int64{0, -1, impl.MaxTime + 1, 1<<32 + 3, math.MinInt64, math.MaxInt64} {
				checkHear(t, h, impl.Sub{Kind: kind, N: n}, failed(impl.ErrForm))
			}
			if !isOneOfFour(kind) {
				checkHear(t, h, impl.Sub{Kind: kind, N: 3}, failed(impl.ErrForm))
				checkHear(t, h, impl.Sub{Kind: kind, N: 9}, failed(impl.ErrForm))
			}
		}
	}
}

func TestHearInEveryState(t *testing.T) {
	eachValidHalf(t, func(h impl.Half) {
		eachSub(func(s impl.Sub) { checkHear(t, h, s, referenceHear(h, s)) })
	})
}

func TestNamesOfHalves(t *testing.T) {
	checkNames(t, impl.Half{}, "none", "none")
	checkNames(t, impl.Half{Next: 7}, "none", "none")
	checkNames(t, impl.Half{Next: 7, Out: 3}, "none", "none+out")
	checkNames(t, impl.Half{Next: 7, In: 9}, "none", "none+in")
	checkNames(t, impl.Half{Next: 7, Out: 3, In: 9}, "none", "none+out+in")
	checkNames(t, impl.Half{Next: 7, To: 3}, "to", "to")
	checkNames(t, impl.Half{Next: 7, To: 3, In: 9}, "to", "to+in")
	checkNames(t, impl.Half{Next: 7, From: 9}, "from", "from")
	checkNames(t, impl.Half{Next: 7, Out: 3, From: 9}, "from", "from+out")
	checkNames(t, impl.Half{Next: 7, To: 3, From: 9}, "both", "both")
	eachHalf(t, func(h impl.Half) {
		show, name := referenceNames(h)
		checkNames(t, h, show, name)
	})
}

func TestHalfDrop(t *testing.T) {
	checkHalfDrop(t, impl.Half{}, halfAnd(impl.Half{}))
	checkHalfDrop(t, impl.Half{Next: 7}, halfAnd(impl.Half{Next: 7}))
	checkHalfDrop(t, impl.Half{Next: impl.MaxTime}, halfAnd(impl.Half{Next: impl.MaxTime}))
	checkHalfDrop(t, impl.Half{Next: 7, Out: 3}, halfAnd(impl.Half{Next: 7}, leave(3)))
	checkHalfDrop(t, impl.Half{Next: 7, To: 3}, halfAnd(impl.Half{Next: 7}, leave(3)))
	checkHalfDrop(t, impl.Half{Next: 7, In: 9}, halfAnd(impl.Half{Next: 7}, deny(9)))
	checkHalfDrop(t, impl.Half{Next: 7, From: 9}, halfAnd(impl.Half{Next: 7}, deny(9)))
	checkHalfDrop(t, impl.Half{Next: 7, Out: 3, In: 9}, halfAnd(impl.Half{Next: 7}, leave(3), deny(9)))
	checkHalfDrop(t, impl.Half{Next: 7, To: 3, From: 9}, halfAnd(impl.Half{Next: 7}, leave(3), deny(9)))
	checkHalfDrop(t, impl.Half{Next: impl.MaxTime, To: impl.MaxTime, From: impl.MaxTime}, halfAnd(impl.Half{Next: impl.MaxTime}, leave(impl.MaxTime), deny(impl.MaxTime)))
	eachHalf(t, func(h impl.Half) { checkHalfDrop(t, h, referenceDrop(h)) })
}

// Each of these halves is invalid and would give another error, too, if it were not.
func TestInvalidHalvesAreRejected(t *testing.T) {
	for _, h := range []impl.Half{
		{Next: -1}, {Next: impl.MaxTime + 1}, {Out: 1}, {Next: 7, To: 8}, {Next: 7, Out: 1, To: 1},
		{Next: impl.MaxTime, In: -1}, {Next: impl.MaxTime, From: impl.MaxTime + 1}, {Next: impl.MaxTime, In: 1, From: 1}, {Next: impl.MaxTime, Out: 1, To: 1},
	} {
		checkHalf(t, h, false)
		checkNames(t, h, "", "")
		checkHalfDrop(t, h, failed(impl.ErrForm))
		for _, kind := range kindsOfSubs() {
			checkSay(t, h, kind, failed(impl.ErrForm))
		}
		eachSub(func(s impl.Sub) { checkHear(t, h, s, failed(impl.ErrForm)) })
	}
}

func TestOperationsYieldValidHalves(t *testing.T) {
	check := func(h impl.Half, out impl.HalfOut) {
		if out.Code != impl.OK {
			return
		}
		checkHalf(t, out.Half, true)
		if out.Half.Next < h.Next {
			t.Errorf("Next of %+v: after an operation it is that of %+v", h, out.Half)
		}
		for _, s := range out.Send {
			if !isOneOfFour(s.Kind) || s.N < 1 || s.N > impl.MaxTime {
				t.Errorf("%+v: an operation sends %+v", h, s)
			}
		}
	}
	eachValidHalf(t, func(h impl.Half) {
		check(h, impl.HalfDrop(h))
		for _, kind := range kindsOfSubs() {
			check(h, impl.HalfSay(h, kind))
		}
		eachSub(func(s impl.Sub) { check(h, impl.HalfHear(h, s)) })
	})
}

// couple is two halves and what each of them has sent and the other one has not heard.
type couple struct {
	halves [2]impl.Half
	sent   [2]transit
}

// transit is a queue that can be compared.
type transit struct {
	subs [4]impl.Sub
	used int
}

func (c couple) isQuiet() bool {
	return c.sent[0].used == 0 && c.sent[1].used == 0
}

// after returns the couple after an operation of one side, unless what it sends is too much for the queue.
func (c couple) after(side int, out impl.HalfOut) (couple, bool) {
	queue := &c.sent[side]
	if out.Code != impl.OK || queue.used+len(out.Send) > len(queue.subs) {
		return couple{}, false
	}
	c.halves[side] = out.Half
	queue.used += copy(queue.subs[queue.used:], out.Send)
	return c, true
}

// heard returns the couple after one side has heard the first of what the other one has sent.
func (c couple) heard(side int) (couple, bool) {
	queue := &c.sent[1-side]
	if queue.used == 0 {
		return couple{}, false
	}
	out := impl.HalfHear(c.halves[side], queue.subs[0])
	rest := transit{used: queue.used - 1}
	copy(rest.subs[:], queue.subs[1:queue.used])
	*queue = rest
	return c.after(side, out)
}

// delivered returns the couple after all that was sent is heard, which sends nothing more.
func (c couple) delivered() couple {
	for range c.sent[0].subs {
		for side := range 2 {
			if next, moved := c.heard(side); moved {
				c = next
			}
		}
	}
	return c
}

// following returns what can become of a couple in one step.
func (c couple) following() []couple {
	var list []couple
	add := func(next couple, moved bool) {
		if moved {
			list = append(list, next)
		}
	}
	for side := range 2 {
		add(c.heard(side))
		add(c.after(side, impl.HalfDrop(c.halves[side])))
		for kind := int64(impl.SubAsk); kind <= impl.SubDeny; kind++ {
			add(c.after(side, impl.HalfSay(c.halves[side], kind)))
		}
	}
	return list
}

// reachable returns all couples that can come from one whose numbers run out soon.
func reachable(first couple) []couple {
	seen := map[couple]bool{first: true}
	list := []couple{first}
	for i := 0; i < len(list); i++ {
		for _, next := range list[i].following() {
			if !seen[next] {
				seen[next] = true
				list = append(list, next)
			}
		}
	}
	return list
}

// soonFull is a new couple in which each side can still ask twice.
func soonFull() couple {
	h := impl.Half{Next: impl.MaxTime - 2}
	return couple{halves: [2]impl.Half{h, h}}
}

// mirrored tells what HalfName returns for one side by what it returns for the other one.
var mirrored = map[string]string{
	"none": "none", "none+out": "none+in", "none+in": "none+out", "none+out+in": "none+out+in",
	"to": "from", "from": "to", "to+in": "from+out", "from+out": "to+in", "both": "both",
}

func checkAgree(t *testing.T, a impl.Half, b impl.Half) {
	t.Helper()
	if a.Out != b.In || a.To != b.From || a.In != b.Out || a.From != b.To {
		t.Fatalf("nothing is in transit, but %+v and %+v do not agree", a, b)
	}
	if want, found := mirrored[impl.HalfName(a)]; !found || impl.HalfName(b) != want {
		t.Fatalf("nothing is in transit, but %+v is %q and %+v is %q", a, impl.HalfName(a), b, impl.HalfName(b))
	}
}

func TestHalvesAgree(t *testing.T) {
	names := map[string]int{}
	for _, c := range reachable(soonFull()) {
		checkHalf(t, c.halves[0], true)
		checkHalf(t, c.halves[1], true)
		if t.Failed() {
			return
		}
		if c.isQuiet() {
			checkAgree(t, c.halves[0], c.halves[1])
			names[impl.HalfName(c.halves[0])]++
		}
	}
	if len(names) != len(mirrored) {
		t.Errorf("quiet couples: got those of the names %v, want all of %v", names, mirrored)
	}
}

// What has been sent waits for any time here, and more than a few Subs are in transit.
func TestHalvesAgreeAfterAnyDelay(t *testing.T) {
	for seed := range int64(300) {
		random := rand.New(rand.NewSource(seed))
		var halves [2]impl.Half
		var sent [2][]impl.Sub
		delay := 1 + random.Intn(9)
		hear := func(side int) {
			if len(sent[1-side]) > 0 {
				halves[side] = impl.HalfHear(halves[side], sent[1-side][0]).Half
				sent[1-side] = sent[1-side][1:]
			}
		}
		for range 200 {
			side := random.Intn(2)
			if random.Intn(delay) == 0 {
				hear(side)
				continue
			}
			out := impl.HalfDrop(halves[side])
			if random.Intn(9) > 0 {
				out = impl.HalfSay(halves[side], 1+random.Int63n(4))
			}
			if out.Code == impl.OK {
				halves[side] = out.Half
				sent[side] = append(sent[side], out.Send...)
			}
			if len(sent[0])+len(sent[1]) == 0 {
				checkAgree(t, halves[0], halves[1])
			}
		}
		for len(sent[0])+len(sent[1]) > 0 {
			hear(random.Intn(2))
		}
		checkAgree(t, halves[0], halves[1])
	}
}

func TestDroppedHalves(t *testing.T) {
	for _, c := range reachable(soonFull()) {
		for side := range 2 {
			dropped := impl.HalfDrop(c.halves[side])
			if name := impl.HalfName(dropped.Half); name != "none" {
				t.Fatalf("%+v, of which side %d is dropped: it is %q", c, side, name)
			}
			next, moved := c.after(side, dropped)
			if !moved {
				continue
			}
			wasQuiet := c.isQuiet()
			next = next.delivered()
			if !next.isQuiet() {
				t.Fatalf("%+v, of which side %d is dropped: not all is heard in %+v", c, side, next)
			}
			for _, h := range next.halves {
				if impl.HalfShow(h) != "none" {
					t.Fatalf("%+v, of which side %d is dropped: in the end %+v shows %q", c, side, h, impl.HalfShow(h))
				}
				// What the other side asks for at the same time is a new request.
				if wasQuiet && h != (impl.Half{Next: h.Next}) {
					t.Fatalf("%+v, of which side %d is dropped: in the end there is %+v", c, side, h)
				}
			}
		}
	}
}

func TestHalvesAreNotShared(t *testing.T) {
	h := impl.Half{Next: 7, To: 3, In: 9}
	for _, operation := range []func() impl.HalfOut{
		func() impl.HalfOut { return impl.HalfDrop(h) },
		func() impl.HalfOut { return impl.HalfSay(h, impl.SubGrant) },
		func() impl.HalfOut { return impl.HalfSay(h, impl.SubLeave) },
	} {
		first, again := operation(), operation()
		for i := range first.Send {
			first.Send[i] = impl.Sub{}
		}
		if !sameHalfOut(again, operation()) || len(again.Send) == 0 || again.Send[0] == (impl.Sub{}) {
			t.Errorf("a change of what was sent changes what is sent: %+v", again)
		}
	}
}
