package concord_test

import (
	"fmt"
	"math/rand"
	"slices"
	"strings"
	"testing"

	"concord/api"
	"concord/concord"
)

// sync makes a Sync, and wants so many steps and these conflicts.
func sync(t *testing.T, s *concord.Store, steps int, conflicts ...string) {
	t.Helper()
	acts, bytes := s.Acts(), s.Bytes()
	report, e := s.Sync()
	if e != api.OK || report.Steps != steps || !slices.Equal(report.Conflicts, conflicts) {
		t.Errorf("P9: Sync = %v, %d, want %d steps, conflicts %q", report, e, steps, conflicts)
	}
	if steps == 0 && (s.Acts() != acts || s.Bytes() != bytes) {
		t.Errorf("P9: a Sync without a step does %d acts", s.Acts()-acts)
	}
}

// many is a model with each case of "In step", the longest contents and seven paths.
func many() model {
	return model{
		{"a": "new", "b": longest, "d": "same", "f": "left", "g": "agreed"},
		{"a": "old", "b": longest[1:], "c": longest, "d": "same", "f": "right", "g": "agreed"},
		{"a": "old", "b": longest[1:], "c": longest, "e": "gone", "f": "older", "g": "agreed"},
	}
}

func TestTheExamplesOfSync(t *testing.T) {
	s := begin(t, 200)
	put(t, s, api.Left, "a", "x")
	sync(t, s, 1)
	checkState(t, "row 1", s, "0 a \"x\"\n1 a \"x\"\n2 a \"x\"\n")
	put(t, s, api.Right, "a", "y")
	sync(t, s, 1)
	checkState(t, "row 2", s, "0 a \"y\"\n1 a \"y\"\n2 a \"y\"\n")
	put(t, s, api.Left, "a", "1")
	put(t, s, api.Right, "a", "2")
	sync(t, s, 0, "a")
	checkState(t, "row 3", s, "0 a \"1\"\n1 a \"2\"\n2 a \"y\"\n")
	remove(t, s, api.Right, "a")
	sync(t, s, 0, "a")
	checkState(t, "row 4", s, "0 a \"1\"\n2 a \"y\"\n")
	put(t, s, api.Right, "a", "1")
	sync(t, s, 1)
	sync(t, s, 0)
	checkState(t, "row 5", s, "0 a \"1\"\n1 a \"1\"\n2 a \"1\"\n")
	remove(t, s, api.Left, "a")
	sync(t, s, 1)
	checkState(t, "row 6", s, "")
	check(t, "row 7: Fail", s.Fail(0, 0), api.OK)
	check(t, "row 7: Put", s.Put(api.Left, "b", "x"), api.ErrDown)
	if _, e := s.Get(api.Left, "b"); e != api.ErrDown {
		t.Errorf("row 7: Get: %d", e)
	}
	checkState(t, "row 7: opened again", reopen(t, s), "")
}

// Each choice of nothing and of three contents on the left, on the right and in the agreed set.
func TestSyncOfOnePath(t *testing.T) {
	contents := []has{{}, {true, ""}, {true, "x"}, {true, longest}}
	for _, l := range contents {
		for _, r := range contents {
			for _, o := range contents {
				m := emptyModel()
				m.become(api.Left, "a", l)
				m.become(api.Right, "a", r)
				m.become(api.Agreed, "a", o)
				s := holding(t, 40, m.files()...)
				what := "P9: Sync of\n" + m.state()
				report := m.sync()
				sync(t, s, report.Steps, report.Conflicts...)
				checkState(t, what, s, m.state())
				checkState(t, what+"opened again", reopen(t, s), m.state())
				sync(t, s, 0, report.Conflicts...)
			}
		}
	}
}

func TestSyncOfManyPaths(t *testing.T) {
	s := holding(t, 200, many().files()...)
	sync(t, s, 5, "f")
	want := model{
		{"a": "new", "b": longest, "d": "same", "f": "left", "g": "agreed"},
		{"a": "new", "b": longest, "d": "same", "f": "right", "g": "agreed"},
		{"a": "new", "b": longest, "d": "same", "f": "older", "g": "agreed"},
	}
	checkState(t, "P9", s, want.state())
	checkState(t, "P9: opened again", reopen(t, s), want.state())
	sync(t, s, 0, "f")
	r := rand.New(rand.NewSource(2))
	for range 300 {
		m := someModel(r, api.MaxPaths)
		s := holding(t, 108, m.files()...)
		report := m.sync()
		sync(t, s, report.Steps, report.Conflicts...)
		checkState(t, "P9", s, m.state())
	}
}

func TestConflictsAreToldInOrder(t *testing.T) {
	s := begin(t, 200)
	paths := []string{"z", "b", "abcdefgh", "ab", "a", "zz", "aa"}
	for i, path := range paths {
		put(t, s, i%2, path, "one")
		put(t, s, 1-i%2, path, "two")
	}
	want := slices.Sorted(slices.Values(paths))
	for range 50 {
		sync(t, s, 0, want...)
	}
	put(t, s, api.Left, "b", "")
	put(t, s, api.Right, "b", "")
	remove(t, s, api.Left, "zz")
	sync(t, s, 2, "a", "aa", "ab", "abcdefgh", "z")
}

// Agreed files count among the paths, and a Sync that removes them makes room for others.
func TestSyncLetsPathsGo(t *testing.T) {
	s := begin(t, 200)
	for i := range api.MaxPaths {
		put(t, s, i%2, "abcdefg"[i:i+1], longest)
	}
	sync(t, s, api.MaxPaths)
	for i := range api.MaxPaths {
		remove(t, s, 1-i%2, "abcdefg"[i:i+1])
	}
	check(t, "P7: an eighth path", s.Put(api.Left, "h", "x"), api.ErrMany)
	sync(t, s, api.MaxPaths)
	checkState(t, "P9", s, "")
	put(t, s, api.Left, "h", "x")
}

func TestSyncAnswersNewMemory(t *testing.T) {
	s := begin(t, 60)
	for _, path := range []string{"a", "b", "c"} {
		put(t, s, api.Left, path, "left")
		put(t, s, api.Right, path, "right")
	}
	one, _ := s.Sync()
	two, _ := s.Sync()
	one.Conflicts[0] = "x"
	_ = append(one.Conflicts, "one")
	_ = append(two.Conflicts, "two")
	if rest := one.Conflicts[3:cap(one.Conflicts)]; slices.Contains(rest, "two") {
		t.Errorf("P2: spare room is shared: %q", rest)
	}
	if three, _ := s.Sync(); !slices.Equal(two.Conflicts, []string{"a", "b", "c"}) || !slices.Equal(three.Conflicts, two.Conflicts) {
		t.Errorf("P2: %q, %q", two.Conflicts, three.Conflicts)
	}
}

func TestSyncAndRecoverOfAFailedDisk(t *testing.T) {
	s := begin(t, 60)
	put(t, s, api.Left, "a", "x")
	check(t, "P6: Fail", s.Fail(0, 0), api.OK)
	for range 2 {
		checkAnswer(t, "P9: Sync", answer(s.Sync()), down)
		check(t, "P11: Recover", s.Recover(), api.ErrDown)
	}
	x := reopen(t, s)
	checkState(t, "P10", x, "0 a \"x\"\n")
	sync(t, x, 1)
}

// cutOff is many on a disk that fails after so many acts of a Sync.
func cutOff(t *testing.T, after int, keep int) *concord.Store {
	t.Helper()
	s := holding(t, 200, many().files()...)
	check(t, "P6: Fail", s.Fail(after, keep), api.OK)
	checkAnswer(t, fmt.Sprintf("P6: Sync on a disk that fails after %d acts", after), answer(s.Sync()), down)
	if s.Acts() != after {
		t.Errorf("P6: %d acts, want %d", s.Acts(), after)
	}
	return s
}

func TestTheLastActOfASyncIsAFlush(t *testing.T) {
	s := holding(t, 200, many().files()...)
	sync(t, s, 5, "f")
	if x := cutOff(t, s.Acts()-1, -1); x.Bytes() != s.Bytes() {
		t.Error("P6: the last act of a Sync writes")
	}
	if x := reopen(t, cutOff(t, s.Acts()-1, 0)); !isPending(t, x) {
		t.Error("P9: the journal goes ahead of the last act")
	}
	bytes := s.Bytes()
	check(t, "P6: Fail", s.Fail(0, -1), api.OK)
	check(t, "P6: Put", s.Put(api.Left, "a", "z"), api.ErrDown)
	if s.Bytes() != bytes {
		t.Error("P5: not all of a Sync lasts")
	}
}

// Were there a 61st write that does not last yet, this keep would show it.
func TestFewWritesWait(t *testing.T) {
	m := emptyModel()
	for i, path := range strings.Split("abcdefg", "") {
		m[i%2][path] = longest
	}
	end := holding(t, 108, m.files()...)
	sync(t, end, api.MaxPaths)
	for after := range end.Acts() {
		var lasts [2]string
		for i, keep := range []int{0, 7 << 60} {
			s := holding(t, 108, m.files()...)
			check(t, "P6: Fail", s.Fail(after, keep), api.OK)
			checkAnswer(t, "P6: Sync", answer(s.Sync()), down)
			lasts[i] = s.Bytes()
		}
		if lasts[0] != lasts[1] {
			t.Errorf("P6: after %d acts more than 60 writes wait", after)
		}
	}
}

// leastSectors is how many sectors there have to be for P12 to promise room for so many files.
func leastSectors(count int) int {
	sectors := api.MinSectors
	for (sectors-24)/4 < count {
		sectors++
	}
	return sectors
}

func TestRoomForSync(t *testing.T) {
	r := rand.New(rand.NewSource(3))
	for range 2000 {
		m := someModel(r, 1+r.Intn(api.MaxPaths))
		end := m.copied()
		report := end.sync()
		least := leastSectors(max(m.count(), end.count()))
		for _, sectors := range []int{least, least + 1, min(least+2+r.Intn(300), api.MaxSectors)} {
			s := holding(t, sectors, m.files()...)
			sync(t, s, report.Steps, report.Conflicts...)
			checkState(t, fmt.Sprintf("P12: Sync on %d sectors", sectors), s, end.state())
		}
	}
}

// As many files as P12 names for a disk: all put, all changed, all removed.
func TestRoomForTheMostFiles(t *testing.T) {
	for paths := 1; paths <= api.MaxPaths; paths++ {
		s := begin(t, leastSectors(3*paths))
		for _, contents := range []string{longest, longest[1:], ""} {
			for i := range paths {
				put(t, s, i%2, "abcdefg"[i:i+1], contents)
			}
			sync(t, s, paths)
		}
		for i := range paths {
			remove(t, s, i%2, "abcdefg"[i:i+1])
		}
		sync(t, s, paths)
		checkState(t, "P12", s, "")
	}
}

// On disks too small for what is asked, a Sync answers ErrSpace and changes nothing, or does all; without a file it is OK.
func TestSyncOfSmallDisks(t *testing.T) {
	refused := false
	for sectors := api.MinSectors; sectors < 28; sectors++ {
		s := begin(t, sectors)
		sync(t, s, 0)
		put(t, s, api.Left, "a", longest)
		remove(t, s, api.Left, "a")
		sync(t, s, 0)
		for i := range 2 * api.MaxPaths {
			s.Put(i%2, "abcdefg"[i*5%7:][:1], longest[i:])
			refused = !syncsOrRefuses(t, s) || refused
		}
	}
	if !refused {
		t.Error("P9: 14 files on less than 28 sectors, and never ErrSpace")
	}
}

// syncsOrRefuses tells whether a Sync found room, and wants a disk that is as it was if it did not.
func syncsOrRefuses(t *testing.T, s *concord.Store) bool {
	t.Helper()
	acts, bytes := s.Acts(), s.Bytes()
	report, e := s.Sync()
	if e == api.OK {
		sync(t, s, 0, report.Conflicts...)
		return true
	}
	checkAnswer(t, "P9: Sync of a small disk", answer(report, e), answer(api.Report{}, api.ErrSpace))
	if s.Acts() != acts || s.Bytes() != bytes {
		t.Errorf("P9: ErrSpace has changed a disk of %d sectors", len(bytes)/api.Sector)
	}
	check(t, "P11: Recover behind ErrSpace", s.Recover(), api.OK)
	return false
}

// A disk whose every slot holds a file has no room for a journal; without a step none is needed.
func TestSyncOfAFullDisk(t *testing.T) {
	inStep := model{{"a": "x", "b": longest}, {"a": "x", "b": longest}, {"a": "x", "b": longest}}
	s := holding(t, api.MinSectors, append(inStep.files(), file(api.Left, "c", "new"))...)
	if syncsOrRefuses(t, s) {
		t.Error("P9: two files and a journal in no slot at all")
	}
	remove(t, s, api.Left, "c")
	sync(t, s, 0)
	conflicts := model{{"a": "1", "b": "1", "c": "1"}, {"a": "2", "b": "2", "c": "2"}, {"c": "3"}}
	sync(t, holding(t, api.MinSectors, conflicts.files()...), 0, "a", "b", "c")
}
