package concord_test

import (
	"fmt"
	"math"
	"strings"
	"testing"

	"concord/api"
	"concord/concord"
)

// change is a call that changes a file.
type change struct {
	what string
	do   func(s *concord.Store) api.Errno
}

var changes = []change{
	{"put a new file", func(s *concord.Store) api.Errno { return s.Put(api.Left, "c", longest) }},
	{"put a file again", func(s *concord.Store) api.Errno { return s.Put(api.Left, "a", strings.Repeat("new", 30)) }},
	{"put an empty file", func(s *concord.Store) api.Errno { return s.Put(api.Right, "b", "") }},
	{"remove a file", func(s *concord.Store) api.Errno { return s.Remove(api.Left, "a") }},
	{"remove the other file", func(s *concord.Store) api.Errno { return s.Remove(api.Right, "b") }},
}

// begun is a store with a file on each side, and with slots that were used before.
func begun(t *testing.T, sectors int) *concord.Store {
	t.Helper()
	s := begin(t, sectors)
	put(t, s, api.Left, "a", "older")
	put(t, s, api.Left, "a", "old")
	put(t, s, api.Right, "b", longest)
	put(t, s, api.Right, "c", "other")
	return s
}

// done tells the store behind a change, and how many acts it took.
func (c change) done(t *testing.T, sectors int) (*concord.Store, int) {
	t.Helper()
	s := begun(t, sectors)
	n := s.Acts()
	check(t, "P7: "+c.what, c.do(s), api.OK)
	return s, s.Acts() - n
}

func TestADiskThatFailsAtEachAct(t *testing.T) {
	keeps := []int{-1, math.MaxInt, math.MinInt, 1 << 62}
	for keep := range 16 {
		keeps = append(keeps, keep)
	}
	for _, sectors := range []int{api.MinSectors, 100, api.MaxSectors} {
		for _, c := range changes {
			start := state(t, begun(t, sectors))
			end, acts := c.done(t, sectors)
			if acts < 1 || acts > 1000 {
				t.Errorf("P7: %s: %d acts", c.what, acts)
			}
			for after := range acts {
				for _, keep := range keeps {
					s := begun(t, sectors)
					what := fmt.Sprintf("%s, %d sectors, after %d acts, keeping %b", c.what, sectors, after, keep)
					failIn(t, what, s, c, after, keep)
					x := reopen(t, s)
					if got := state(t, x); got != start && got != state(t, end) {
						t.Errorf("P7: %s:\n%s", what, got)
					}
					goOn(t, what, x, c, state(t, end))
				}
			}
		}
	}
}

// failIn lets the disk fail in a call, and looks at what the store answers then.
func failIn(t *testing.T, what string, s *concord.Store, c change, after int, keep int) {
	t.Helper()
	n := s.Acts()
	check(t, "P6: Fail", s.Fail(after, keep), api.OK)
	check(t, "P6: "+what, c.do(s), api.ErrDown)
	if s.Acts() != n+after {
		t.Errorf("P6: %s: %d acts", what, s.Acts()-n)
	}
	bytes := s.Bytes()
	check(t, "P6: Put", s.Put(api.Left, "a", "x"), api.ErrDown)
	check(t, "P6: Remove", s.Remove(api.Left, "zz"), api.ErrDown)
	check(t, "P6: Fail", s.Fail(0, 0), api.ErrDown)
	check(t, "P6: Fail", s.Fail(-1, 0), api.ErrDown)
	check(t, "P6: Recover", s.Recover(), api.ErrDown)
	if r, e := s.Sync(); r.Steps != 0 || r.Conflicts != nil || e != api.ErrDown {
		t.Errorf("P6: Sync: %v, %d", r, e)
	}
	if content, e := s.Get(api.Left, "a"); content != "" || e != api.ErrDown {
		t.Errorf("P6: Get: %q, %d", content, e)
	}
	if paths, e := s.List(api.Left); paths != nil || e != api.ErrDown {
		t.Errorf("P6: List: %q, %d", paths, e)
	}
	check(t, "P1: Put on no side", s.Put(2, "a", "x"), api.ErrArg)
	check(t, "P1: Remove of no path", s.Remove(0, ""), api.ErrArg)
	if _, e := s.Get(3, "a"); e != api.ErrArg {
		t.Errorf("P1: Get of no set: %d", e)
	}
	if _, e := s.List(3); e != api.ErrArg {
		t.Errorf("P1: List of no set: %d", e)
	}
	if s.Bytes() != bytes || s.Acts() != n+after {
		t.Errorf("P6: %s: a failed disk has done something", what)
	}
}

// goOn does the change on a store that was opened after a failure.
func goOn(t *testing.T, what string, s *concord.Store, c change, end string) {
	t.Helper()
	if e := c.do(s); e != api.OK && e != api.ErrNone {
		t.Errorf("P7: again: %s: %d", what, e)
	}
	checkState(t, "P7: again: "+what, reopen(t, s), end)
}

// All that a call does lasts by its last act, and before that only if it is kept: so that act is a flush.
func TestTheLastActIsAFlush(t *testing.T) {
	for _, c := range changes {
		end, acts := c.done(t, 50)
		s := begun(t, 50)
		start := state(t, s)
		s.Fail(acts-1, -1)
		check(t, "P6: "+c.what, c.do(s), api.ErrDown)
		if s.Bytes() != end.Bytes() {
			t.Errorf("P6: %s: the last act writes", c.what)
		}
		s = begun(t, 50)
		s.Fail(acts-1, 0)
		check(t, "P6: "+c.what, c.do(s), api.ErrDown)
		checkState(t, "P7: "+c.what, reopen(t, s), start)
	}
}

// With so few acts there are never more than 60 writes that do not last yet.
func TestFewActs(t *testing.T) {
	for _, c := range changes {
		if _, acts := c.done(t, 100); acts > 60 {
			t.Errorf("P6, P7: %s: %d acts", c.what, acts)
		}
	}
}

func TestNothingWaitsBetweenCalls(t *testing.T) {
	for _, c := range changes {
		for _, keep := range []int{0, -1} {
			s, _ := c.done(t, 50)
			bytes := s.Bytes()
			s.Fail(0, keep)
			check(t, "P6: Put", s.Put(api.Left, "z", "z"), api.ErrDown)
			if s.Bytes() != bytes {
				t.Errorf("P5: %s: not all of it lasts", c.what)
			}
		}
	}
}

func TestFailsArguments(t *testing.T) {
	s := begin(t, 20)
	for _, after := range []int{-1, -2, math.MinInt} {
		check(t, "P6: Fail", s.Fail(after, 0), api.ErrArg)
	}
	put(t, s, api.Left, "a", "x")
	check(t, "P6: Fail", s.Fail(0, 0), api.OK)
	check(t, "P6: Fail", s.Fail(-1, 0), api.ErrArg)
	check(t, "P6: the earlier Fail holds", s.Put(api.Left, "a", "y"), api.ErrDown)
	check(t, "P6: Fail", s.Fail(-1, 0), api.ErrDown)
}

func TestALaterFailTakesThePlaceOfAnEarlierOne(t *testing.T) {
	s := begin(t, 20)
	check(t, "P6: Fail", s.Fail(0, 0), api.OK)
	check(t, "P6: Fail", s.Fail(math.MaxInt, 0), api.OK)
	put(t, s, api.Left, "a", "x")
	check(t, "P6: Fail", s.Fail(1000, 0), api.OK)
	check(t, "P6: Fail", s.Fail(0, 0), api.OK)
	check(t, "P6: Put", s.Put(api.Left, "a", "y"), api.ErrDown)
	checkState(t, "P6", reopen(t, s), "0 a \"x\"\n")
}

// The acts of calls before the failing one count; calls that only read do none.
func TestFailCountsActsOverCalls(t *testing.T) {
	s := begin(t, 20)
	put(t, s, api.Left, "a", "x")
	n := s.Acts()
	check(t, "P6: Fail", s.Fail(n, 0), api.OK)
	put(t, s, api.Left, "b", "x")
	if s.Acts() != 2*n {
		t.Fatalf("P6: %d acts, then %d", n, s.Acts())
	}
	checkState(t, "P8", s, "0 a \"x\"\n0 b \"x\"\n")
	check(t, "P7: Remove", s.Remove(api.Left, "c"), api.ErrNone)
	if s.Acts() != 2*n {
		t.Errorf("P6: reading has done %d acts", s.Acts()-2*n)
	}
	check(t, "P6: Put", s.Put(api.Left, "c", "x"), api.ErrDown)
}

func TestAStoreOpenedOnTheBytesHasNoScript(t *testing.T) {
	s := begin(t, 20)
	s.Fail(0, 0)
	x := reopen(t, s)
	put(t, x, api.Left, "a", "x")
	check(t, "P6: Put", s.Put(api.Left, "a", "x"), api.ErrDown)
	y := reopen(t, s)
	put(t, y, api.Left, "a", "x")
	if y.Bytes() != x.Bytes() || y.Acts() != x.Acts() {
		t.Error("P2: other bytes or acts after a failure that kept nothing")
	}
}

func TestTheExampleOfAFailure(t *testing.T) {
	s := begin(t, 200)
	put(t, s, api.Left, "a", "1")
	check(t, "Fail", s.Fail(0, 0), api.OK)
	check(t, "Put", s.Put(api.Left, "b", "x"), api.ErrDown)
	if _, e := s.Get(api.Left, "b"); e != api.ErrDown {
		t.Errorf("Get: %d", e)
	}
	if _, e := reopen(t, s).Get(api.Left, "b"); e != api.ErrNone {
		t.Errorf("a file b: %d", e)
	}
}
