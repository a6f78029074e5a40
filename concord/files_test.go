package concord_test

import (
	"fmt"
	"math"
	"slices"
	"strings"
	"testing"

	"concord/api"
	"concord/concord"
	"concord/files"
)

var wrongPaths = []string{"", "abcdefghi", "A", "aB", "a1", "a-", "a ", " a", "\x00", "ä", "a\xff", "`", "{", "a/b", strings.Repeat("a", 1000)}

var longest = strings.Repeat("x", api.MaxContent)

func TestPutGetRemove(t *testing.T) {
	s := begin(t, 200)
	put(t, s, api.Left, "b", "one")
	put(t, s, api.Right, "b", longest)
	put(t, s, api.Left, "abcdefgh", "")
	put(t, s, api.Left, "z", "\x00\n\xff")
	checkState(t, "P7, P8", s, "0 abcdefgh \"\"\n0 b \"one\"\n0 z \"\\x00\\n\\xff\"\n1 b \""+longest+"\"\n")
	put(t, s, api.Left, "b", "two")
	put(t, s, api.Right, "b", "")
	checkState(t, "P7", s, "0 abcdefgh \"\"\n0 b \"two\"\n0 z \"\\x00\\n\\xff\"\n1 b \"\"\n")
	remove(t, s, api.Left, "b")
	remove(t, s, api.Left, "abcdefgh")
	checkState(t, "P7", s, "0 z \"\\x00\\n\\xff\"\n1 b \"\"\n")
	check(t, "P7: Remove again", s.Remove(api.Left, "b"), api.ErrNone)
	checkState(t, "P5: opened again", reopen(t, s), state(t, s))
}

func TestNoFile(t *testing.T) {
	s := holding(t, 40, file(api.Right, "a", "x"), file(api.Agreed, "c", "z"))
	for set, paths := range [][]string{{"a", "b", "c"}, {"b", "c", "aa"}, {"a", "b", "cc"}} {
		for _, path := range paths {
			if content, e := s.Get(set, path); content != "" || e != api.ErrNone {
				t.Errorf("P8: Get(%d, %q) = %q, %d", set, path, content, e)
			}
		}
	}
	bytes := s.Bytes()
	check(t, "P7: Remove", s.Remove(api.Left, "a"), api.ErrNone)
	check(t, "P7: Remove", s.Remove(api.Right, "c"), api.ErrNone)
	if s.Bytes() != bytes || s.Acts() != 0 {
		t.Error("P7: an error has changed the disk")
	}
}

func TestWhatWasAgreedCanBeReadOnly(t *testing.T) {
	s := holding(t, 40, file(api.Agreed, "b", "x"), file(api.Agreed, "a", ""), file(api.Left, "a", "y"))
	checkState(t, "P8", s, "0 a \"y\"\n2 a \"\"\n2 b \"x\"\n")
	check(t, "P7: Put", s.Put(api.Agreed, "a", ""), api.ErrArg)
	check(t, "P7: Remove", s.Remove(api.Agreed, "a"), api.ErrArg)
	put(t, s, api.Left, "b", "z")
	remove(t, s, api.Left, "a")
	checkState(t, "P7", s, "0 b \"z\"\n2 a \"\"\n2 b \"x\"\n")
}

func TestListPutsTheLesserFirst(t *testing.T) {
	s := begin(t, 200)
	for _, path := range []string{"b", "ab", "z", "a", "abcdefgh", "ba", "aa"} {
		put(t, s, api.Right, path, "x")
	}
	paths, e := s.List(api.Right)
	if !slices.Equal(paths, []string{"a", "aa", "ab", "abcdefgh", "b", "ba", "z"}) || e != api.OK {
		t.Errorf("P8: %q, %d", paths, e)
	}
	if paths, e := s.List(api.Left); len(paths) != 0 || e != api.OK {
		t.Errorf("P8: %q, %d", paths, e)
	}
}

func TestWrongArguments(t *testing.T) {
	s := begin(t, 40)
	put(t, s, api.Left, "a", "x")
	bytes, acts := s.Bytes(), s.Acts()
	for _, side := range []int{math.MinInt, -1, 2, 3, 4, 256, 1 << 32, math.MaxInt} {
		check(t, fmt.Sprint("P7: Put on ", side), s.Put(side, "a", "y"), api.ErrArg)
		check(t, fmt.Sprint("P7: Remove on ", side), s.Remove(side, "a"), api.ErrArg)
		if side == api.Agreed {
			continue
		}
		if content, e := s.Get(side, "a"); content != "" || e != api.ErrArg {
			t.Errorf("P8: Get on %d: %q, %d", side, content, e)
		}
		if paths, e := s.List(side); paths != nil || e != api.ErrArg {
			t.Errorf("P8: List on %d: %q, %d", side, paths, e)
		}
	}
	for _, path := range wrongPaths {
		check(t, fmt.Sprintf("P7: Put of %q", path), s.Put(api.Left, path, ""), api.ErrArg)
		check(t, fmt.Sprintf("P7: Remove of %q", path), s.Remove(api.Left, path), api.ErrArg)
		if content, e := s.Get(api.Agreed, path); content != "" || e != api.ErrArg {
			t.Errorf("P8: Get of %q: %q, %d", path, content, e)
		}
	}
	for _, length := range []int{api.MaxContent + 1, 256, 256 + 5, 1 << 16} {
		check(t, fmt.Sprint("P7: Put of a content of ", length), s.Put(api.Left, "a", strings.Repeat("x", length)), api.ErrArg)
	}
	if s.Bytes() != bytes || s.Acts() != acts {
		t.Error("P7: an error has changed the disk")
	}
}

func TestNoMorePathsThanMayBe(t *testing.T) {
	s := holding(t, 200, file(api.Agreed, "a", ""), file(api.Agreed, "b", ""))
	for i, path := range []string{"b", "c", "d", "e", "f", "g"} {
		put(t, s, i%2, path, "x")
	}
	bytes, acts := s.Bytes(), s.Acts()
	check(t, "P7: an eighth path", s.Put(api.Left, "h", "x"), api.ErrMany)
	check(t, "P7: an eighth path", s.Put(api.Right, "aa", ""), api.ErrMany)
	if s.Bytes() != bytes || s.Acts() != acts {
		t.Error("P7: an error has changed the disk")
	}
	put(t, s, api.Left, "a", "x")
	put(t, s, api.Right, "c", "y")
	put(t, s, api.Right, "d", "z")
	remove(t, s, api.Left, "a")
	check(t, "P7: what was agreed counts", s.Put(api.Left, "h", "x"), api.ErrMany)
	remove(t, s, api.Right, "d")
	check(t, "P7: the other side counts", s.Put(api.Left, "h", "x"), api.ErrMany)
	remove(t, s, api.Left, "d")
	check(t, "P7: a path was removed from both sides", s.Put(api.Left, "h", "x"), api.OK)
}

func TestAStoreWithoutADisk(t *testing.T) {
	var none *concord.Store
	for what, s := range map[string]*concord.Store{"nil": none, "zero": {}} {
		if s.Bytes() != "" || s.Acts() != 0 {
			t.Errorf("P1: %s: %q, %d acts", what, s.Bytes(), s.Acts())
		}
		for _, side := range []int{api.Left, 9} {
			for _, path := range []string{"a", ""} {
				check(t, "P1: Put", s.Put(side, path, "x"), api.ErrDown)
				check(t, "P1: Remove", s.Remove(side, path), api.ErrDown)
				if content, e := s.Get(side, path); content != "" || e != api.ErrDown {
					t.Errorf("P1: Get: %q, %d", content, e)
				}
			}
			if paths, e := s.List(side); paths != nil || e != api.ErrDown {
				t.Errorf("P1: List: %q, %d", paths, e)
			}
			check(t, "P1: Fail", s.Fail(-side, 0), api.ErrDown)
		}
		if r, e := s.Sync(); r.Steps != 0 || r.Conflicts != nil || e != api.ErrDown {
			t.Errorf("P1: Sync: %v, %d", r, e)
		}
		check(t, "P1: Recover", s.Recover(), api.ErrDown)
	}
}

func TestAnswersAreNewMemory(t *testing.T) {
	s := begin(t, 60)
	for _, path := range []string{"a", "b", "c"} {
		put(t, s, api.Left, path, path)
	}
	one, _ := s.List(api.Left)
	two, _ := s.List(api.Left)
	one[0] = "x"
	_ = append(one, "one")
	_ = append(two, "two")
	three, _ := s.List(api.Left)
	if !slices.Equal(two, []string{"a", "b", "c"}) || !slices.Equal(three, two) {
		t.Errorf("P2: %q, %q", two, three)
	}
	if rest := one[len(one):cap(one)]; slices.Contains(rest, "two") {
		t.Errorf("P2: spare room is shared: %q", rest)
	}
}

func TestRoom(t *testing.T) {
	for sectors := api.MinSectors; sectors <= api.MaxSectors; sectors++ {
		promised := (sectors - 24) / 4
		for agreed := range min(promised, api.MaxPaths) + 1 {
			checkRoom(t, sectors, agreed, promised-agreed)
		}
	}
}

// checkRoom puts, replaces and removes as many files as may be, beside some that were agreed.
func checkRoom(t *testing.T, sectors int, agreed int, room int) {
	t.Helper()
	const letters = "abcdefg"
	var all []files.File
	for i := range agreed {
		all = append(all, file(api.Agreed, letters[i:i+1], longest))
	}
	s := holding(t, sectors, all...)
	room = min(room, 2*api.MaxPaths)
	check(t, fmt.Sprintf("P12: Remove of nothing on %d sectors", sectors), s.Remove(api.Left, "z"), api.ErrNone)
	for round := range 3 {
		for i := range room {
			path := letters[i/2 : i/2+1]
			check(t, fmt.Sprintf("P12: Put %d on %d sectors beside %d", i, sectors, agreed), s.Put(i%2, path, longest[round:]), api.OK)
		}
	}
	for i := range room {
		path := letters[i/2 : i/2+1]
		check(t, fmt.Sprintf("P12: Remove %d on %d sectors", i, sectors), s.Remove(i%2, path), api.OK)
		check(t, fmt.Sprintf("P12: Put %d again on %d sectors", i, sectors), s.Put(i%2, path, ""), api.OK)
	}
}

// On a disk too small for what is asked, ErrSpace changes nothing, and there is room again when a file is removed.
func TestNoRoom(t *testing.T) {
	for sectors := api.MinSectors; sectors < 28; sectors++ {
		s := begin(t, sectors)
		refused := false
		for i := range 2 * api.MaxPaths {
			path := "abcdefg"[i/2 : i/2+1]
			before, acts := s.Bytes(), s.Acts()
			switch e := s.Put(i%2, path, longest); {
			case e == api.ErrSpace && (s.Bytes() != before || s.Acts() != acts):
				t.Errorf("P7: ErrSpace has changed a disk of %d sectors", sectors)
			case e != api.OK && e != api.ErrSpace:
				t.Errorf("P7: Put on %d sectors: %d", sectors, e)
			case e == api.ErrSpace:
				refused = true
			}
		}
		if !refused {
			t.Errorf("P7: 14 files on %d sectors", sectors)
		}
		remove(t, s, api.Left, "a")
		put(t, s, api.Left, "a", "x")
		checkState(t, "P7: no room", reopen(t, s), state(t, s))
	}
}
