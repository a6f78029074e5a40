package concord_test

import (
	"fmt"
	"slices"
	"testing"

	"concord/api"
	"concord/concord"
)

// ending is a call that does steps: Sync or Recover, which has no report.
type ending func(s *concord.Store) (api.Report, api.Errno)

func syncCall(s *concord.Store) (api.Report, api.Errno) { return s.Sync() }

func recoverCall(s *concord.Store) (api.Report, api.Errno) { return api.Report{}, s.Recover() }

// isPending asks by a call that changes nothing, whatever it answers.
func isPending(t *testing.T, s *concord.Store) bool {
	t.Helper()
	e := s.Remove(api.Left, "nosuch")
	if e != api.ErrPending && e != api.ErrNone {
		t.Fatalf("P7: Remove of nothing: %d", e)
	}
	return e == api.ErrPending
}

// pending is a store on which a Sync of many was begun and not ended.
func pending(t *testing.T) *concord.Store {
	t.Helper()
	s := holding(t, 200, many().files()...)
	check(t, "P6: Fail", s.Fail(15, 0), api.OK)
	checkAnswer(t, "P6: Sync on a disk that fails", answer(s.Sync()), down)
	x := reopen(t, s)
	if !isPending(t, x) {
		t.Fatal("P4: nothing is pending behind a Sync that was cut off")
	}
	return x
}

// keeps is nothing, all, the first or another alone, and all but the first of the writes that do not last yet.
var keeps = []int{0, -1, 1, 2, 4, -2}

// cutOffs tells the different bytes that last where the disk fails at each act of a call, with nothing kept, all, or some.
func cutOffs(t *testing.T, what string, bytes string, call ending) []string {
	t.Helper()
	var all []string
	s := open(t, bytes)
	_, e := call(s)
	check(t, what, e, api.OK)
	for after := range s.Acts() {
		for _, keep := range keeps {
			x := open(t, bytes)
			check(t, "P6: Fail", x.Fail(after, keep), api.OK)
			checkAnswer(t, fmt.Sprintf("P6: %s, after %d acts", what, after), answer(call(x)), down)
			lasts := x.Bytes()
			checkAnswer(t, "P6: again: "+what, answer(call(x)), down)
			if x.Acts() != after || x.Bytes() != lasts {
				t.Errorf("P6: %s: %d acts, want %d, or a failed disk has done something", what, x.Acts(), after)
			}
			if !slices.Contains(all, lasts) {
				all = append(all, lasts)
			}
		}
	}
	return all
}

// checkWhole wants each file of each set as it was, or as it would be.
func (sc scene) checkWhole(t *testing.T, s *concord.Store) {
	t.Helper()
	for set := range sc.start {
		for _, path := range sc.start.paths() {
			content, e := s.Get(set, path)
			got := has{e == api.OK, content}
			if got != sc.start.get(set, path) && got != sc.end.get(set, path) {
				t.Errorf("P10: %s: set %d, path %s: %v", sc.what, set, path, got)
			}
		}
		paths, e := s.List(set)
		check(t, "P8: List", e, api.OK)
		for _, path := range paths {
			if !slices.Contains(sc.start.paths(), path) {
				t.Errorf("P10: %s: set %d has a path %s", sc.what, set, path)
			}
		}
	}
}

// checkUnended wants of a store on which a Sync is pending that nothing but Recover goes on with it.
func (sc scene) checkUnended(t *testing.T, s *concord.Store) {
	t.Helper()
	bytes, was := s.Bytes(), state(t, s)
	for side := range 2 {
		for _, path := range append(sc.start.paths(), "eighth") {
			check(t, "P7: Put", s.Put(side, path, "y"), api.ErrPending)
			check(t, "P7: Remove", s.Remove(side, path), api.ErrPending)
		}
	}
	checkAnswer(t, "P9: Sync", answer(s.Sync()), answer(api.Report{}, api.ErrPending))
	check(t, "P7: Put of no path", s.Put(api.Left, "", "y"), api.ErrArg)
	check(t, "P7: Put of no content", s.Put(api.Left, "a", longest+"x"), api.ErrArg)
	check(t, "P7: Put on no side", s.Put(api.Agreed, "a", "y"), api.ErrArg)
	check(t, "P7: Remove of no path", s.Remove(api.Left, "A"), api.ErrArg)
	check(t, "P7: Remove on no side", s.Remove(api.Agreed, "a"), api.ErrArg)
	check(t, "P6: Fail", s.Fail(-1, 0), api.ErrArg)
	if content, e := s.Get(api.Left, "eighth"); content != "" || e != api.ErrNone {
		t.Errorf("P8: Get of nothing: %q, %d", content, e)
	}
	if content, e := s.Get(3, "a"); content != "" || e != api.ErrArg {
		t.Errorf("P8: Get of no set: %q, %d", content, e)
	}
	if paths, e := s.List(-1); paths != nil || e != api.ErrArg {
		t.Errorf("P8: List of no set: %q, %d", paths, e)
	}
	if s.Bytes() != bytes || s.Acts() != 0 {
		t.Errorf("P5, P7, P9: %s: an error has changed the disk, or %d acts", sc.what, s.Acts())
	}
	checkState(t, "P8: "+sc.what, s, was)
}

// checkRecovers wants a Recover that does all steps, in the same way each time, and leaves nothing pending.
func (sc scene) checkRecovers(t *testing.T, bytes string) {
	t.Helper()
	x, like := open(t, bytes), open(t, bytes)
	check(t, "P11: Recover: "+sc.what, x.Recover(), api.OK)
	check(t, "P2: Recover: "+sc.what, like.Recover(), api.OK)
	if x.Bytes() != like.Bytes() || x.Acts() != like.Acts() {
		t.Errorf("P2: %s: the same Recover makes another disk", sc.what)
	}
	checkState(t, "P11: "+sc.what, x, sc.end.state())
	checkState(t, "P11: opened again: "+sc.what, reopen(t, x), sc.end.state())
	sc.checkEnded(t, x)
	sc.checkEnded(t, reopen(t, x))
}

// checkEnded wants nothing to be pending, so that Recover does no act, and nothing but conflicts to be left for a Sync.
func (sc scene) checkEnded(t *testing.T, s *concord.Store) {
	t.Helper()
	if isPending(t, s) {
		t.Errorf("P11: %s: still pending", sc.what)
	}
	acts, bytes := s.Acts(), s.Bytes()
	check(t, "P11: Recover of nothing: "+sc.what, s.Recover(), api.OK)
	if s.Acts() != acts || s.Bytes() != bytes {
		t.Errorf("P11: %s: Recover of nothing does %d acts", sc.what, s.Acts()-acts)
	}
	sync(t, s, 0, sc.report.Conflicts...)
}

// checkCutOff holds what lasts behind a failure against P10 and P11.
func (sc scene) checkCutOff(t *testing.T, bytes string) {
	t.Helper()
	x := open(t, bytes)
	sc.checkWhole(t, x)
	if isPending(t, x) {
		sc.checkUnended(t, x)
		sc.checkRecovers(t, bytes)
		return
	}
	switch state(t, x) {
	case sc.start.state():
		check(t, "P11: Recover of nothing: "+sc.what, x.Recover(), api.OK)
		checkAnswer(t, "P9: again: "+sc.what, answer(x.Sync()), answer(sc.report, api.OK))
		checkState(t, "P9: again: "+sc.what, x, sc.end.state())
	case sc.end.state():
		sc.checkEnded(t, x)
	default:
		t.Errorf("P10: %s: done in part, and not pending:\n%s", sc.what, state(t, x))
	}
}

func TestADiskThatFailsAtEachActOfASync(t *testing.T) {
	eachScene(t, func(t *testing.T, sc scene) {
		for _, bytes := range cutOffs(t, "P9: Sync: "+sc.what, sc.bytes, syncCall) {
			sc.checkCutOff(t, bytes)
		}
	})
}

// begun tells the bytes that a failure in a Sync can leave pending.
func (sc scene) begun(t *testing.T) []string {
	t.Helper()
	all := cutOffs(t, "P9: Sync: "+sc.what, sc.bytes, syncCall)
	all = slices.DeleteFunc(all, func(bytes string) bool { return !isPending(t, open(t, bytes)) })
	if len(all) == 0 {
		t.Fatalf("P10: %s: the Sync is never pending", sc.what)
	}
	return all
}

// unended tells all bytes that failures in a Sync, and in any number of Recovers behind it, can leave pending.
func (sc scene) unended(t *testing.T) []string {
	t.Helper()
	all := sc.begun(t)
	for i := 0; i < len(all); i++ {
		if i > 500 {
			t.Fatalf("P11: %s: each Recover that fails leaves other bytes", sc.what)
		}
		for _, bytes := range cutOffs(t, "P11: Recover: "+sc.what, all[i], recoverCall) {
			x := open(t, bytes)
			if !isPending(t, x) {
				checkState(t, "P11: not pending any more: "+sc.what, x, sc.end.state())
			} else if !slices.Contains(all, bytes) {
				all = append(all, bytes)
			}
		}
	}
	return all
}

func TestADiskThatFailsAtEachActOfARecover(t *testing.T) {
	eachScene(t, func(t *testing.T, sc scene) {
		for _, bytes := range sc.unended(t) {
			sc.checkCutOff(t, bytes)
		}
	})
}

// A disk that has failed while a Sync was pending answers ErrDown, which is named first.
func TestAPendingSyncHasToBeEndedFirst(t *testing.T) {
	s := pending(t)
	newScene("many paths", s.Bytes(), many()).checkUnended(t, s)
	if content, e := s.Get(api.Left, "a"); content != "new" || e != api.OK {
		t.Errorf("P8: %q, %d", content, e)
	}
	bytes := s.Bytes()
	check(t, "P6: Fail", s.Fail(0, 0), api.OK)
	check(t, "P11: Recover", s.Recover(), api.ErrDown)
	check(t, "P11: Recover again", s.Recover(), api.ErrDown)
	checkAnswer(t, "P9: Sync", answer(s.Sync()), down)
	check(t, "P7: Put", s.Put(api.Left, "a", "y"), api.ErrDown)
	check(t, "P7: Remove", s.Remove(api.Left, "a"), api.ErrDown)
	check(t, "P6: Fail", s.Fail(9, 0), api.ErrDown)
	if content, e := s.Get(api.Left, "a"); content != "" || e != api.ErrDown {
		t.Errorf("P6: Get: %q, %d", content, e)
	}
	if paths, e := s.List(api.Left); paths != nil || e != api.ErrDown {
		t.Errorf("P6: List: %q, %d", paths, e)
	}
	if s.Bytes() != bytes || s.Acts() != 0 {
		t.Errorf("P6: a failed disk has done %d acts", s.Acts())
	}
	x := reopen(t, s)
	check(t, "P11: Recover", x.Recover(), api.OK)
	m := many()
	m.sync()
	checkState(t, "P11", x, m.state())
	put(t, x, api.Left, "a", "y")
	sync(t, x, 1, "f")
}

func TestRecoverWhereNothingIsPending(t *testing.T) {
	for _, sectors := range []int{api.MinSectors, 24, 100, api.MaxSectors} {
		s := begin(t, sectors)
		check(t, "P11: Recover of a new store", s.Recover(), api.OK)
		put(t, s, api.Left, "a", "x")
		acts, bytes := s.Acts(), s.Bytes()
		check(t, "P11: Recover", s.Recover(), api.OK)
		sync(t, reopen(t, s), 1)
		check(t, "P6: Fail", s.Fail(0, 0), api.OK)
		check(t, "P11: Recover without an act", s.Recover(), api.OK)
		if s.Acts() != acts || s.Bytes() != bytes {
			t.Errorf("P11: Recover has done %d acts", s.Acts()-acts)
		}
		check(t, "P6: Put", s.Put(api.Left, "a", "y"), api.ErrDown)
		check(t, "P11: Recover of a failed disk", s.Recover(), api.ErrDown)
		x := reopen(t, s)
		check(t, "P11: Recover of a store that was opened", x.Recover(), api.OK)
		sync(t, x, 1)
		acts = x.Acts()
		check(t, "P11: Recover behind a Sync", x.Recover(), api.OK)
		if x.Acts() != acts {
			t.Errorf("P11: Recover behind a Sync has done %d acts", x.Acts()-acts)
		}
	}
}

func TestTheLastActOfARecoverIsAFlush(t *testing.T) {
	start := pending(t).Bytes()
	s := open(t, start)
	check(t, "P11: Recover", s.Recover(), api.OK)
	x := open(t, start)
	check(t, "P6: Fail", x.Fail(s.Acts()-1, -1), api.OK)
	check(t, "P6: Recover", x.Recover(), api.ErrDown)
	if x.Bytes() != s.Bytes() {
		t.Error("P6: the last act of a Recover writes")
	}
	x = open(t, start)
	check(t, "P6: Fail", x.Fail(s.Acts()-1, 0), api.OK)
	check(t, "P6: Recover", x.Recover(), api.ErrDown)
	if !isPending(t, reopen(t, x)) {
		t.Error("P11: the journal goes ahead of the last act")
	}
}

// The acts of a Recover count for a script that was given ahead of it, and all that it does lasts when it answers.
func TestAScriptGoesOnBehindARecover(t *testing.T) {
	s := pending(t)
	x := reopen(t, s)
	check(t, "P11: Recover", x.Recover(), api.OK)
	check(t, "P6: Fail", s.Fail(x.Acts(), -1), api.OK)
	check(t, "P11: Recover", s.Recover(), api.OK)
	check(t, "P6: Put", s.Put(api.Left, "a", "z"), api.ErrDown)
	if s.Acts() != x.Acts() || s.Bytes() != x.Bytes() {
		t.Error("P6, P11: another disk, or not all of a Recover lasts")
	}
}

// Were there a 61st write that does not last yet, this keep would show it.
func TestFewWritesWaitInARecover(t *testing.T) {
	sc := wide(t, "seven put", seven(has{true, longest}, has{}))
	start := sc.begun(t)[0]
	end := open(t, start)
	check(t, "P11: Recover", end.Recover(), api.OK)
	for after := range end.Acts() {
		none, late := open(t, start), open(t, start)
		check(t, "P6: Fail", none.Fail(after, 0), api.OK)
		check(t, "P6: Fail", late.Fail(after, 7<<60), api.OK)
		check(t, "P6: Recover", none.Recover(), api.ErrDown)
		check(t, "P6: Recover", late.Recover(), api.ErrDown)
		if none.Bytes() != late.Bytes() {
			t.Errorf("P6: after %d acts more than 60 writes wait", after)
		}
	}
}

func TestRecoverOfNoStore(t *testing.T) {
	var none *concord.Store
	check(t, "P1, P11: Recover", none.Recover(), api.ErrDown)
	check(t, "P1, P11: Recover again", none.Recover(), api.ErrDown)
	checkAnswer(t, "P1, P9: Sync", answer(none.Sync()), down)
}
