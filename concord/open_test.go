package concord_test

import (
	"math"
	"slices"
	"strings"
	"testing"

	"concord/api"
	"concord/concord"
	"concord/files"
)

func TestNewTakesTheSectorsThatMayBe(t *testing.T) {
	for _, n := range []int{math.MinInt, -1, 0, 1, api.MinSectors - 1, api.MaxSectors + 1, 1 << 32, math.MaxInt} {
		if s, e := concord.New(n); s != nil || e != api.ErrArg {
			t.Errorf("P3: New(%d): %v, %d", n, s, e)
		}
	}
	for n := api.MinSectors; n <= api.MaxSectors; n++ {
		s := begin(t, n)
		if len(s.Bytes()) != n*api.Sector || s.Acts() != 0 {
			t.Errorf("P3, P5: New(%d): %d bytes, %d acts", n, len(s.Bytes()), s.Acts())
		}
		checkState(t, "P3: a new store", s, "")
		checkState(t, "P3: a new store, opened", reopen(t, s), "")
	}
}

func TestOpenHoldsTheBytesAndTheFiles(t *testing.T) {
	s := begin(t, 60)
	put(t, s, api.Left, "a", "one")
	put(t, s, api.Left, "abcdefgh", strings.Repeat("\xff", api.MaxContent))
	put(t, s, api.Right, "a", "")
	put(t, s, api.Right, "b", "gone")
	remove(t, s, api.Right, "b")
	x := reopen(t, s)
	if x.Bytes() != s.Bytes() || x.Acts() != 0 {
		t.Errorf("P4, P6: other bytes, or %d acts", x.Acts())
	}
	checkState(t, "P4", x, "0 a \"one\"\n0 abcdefgh \""+strings.Repeat(`\xff`, 96)+"\"\n1 a \"\"\n")
}

func TestOpenRefusesBytesThatAreNoDisk(t *testing.T) {
	s := begin(t, 20)
	put(t, s, api.Left, "a", "x")
	good := s.Bytes()
	for what, bytes := range map[string]string{
		"nothing":             "",
		"a byte":              "x",
		"zeros":               strings.Repeat("\x00", 20*api.Sector),
		"letters":             strings.Repeat("x", 20*api.Sector),
		"ones":                strings.Repeat("\x01", api.MaxSectors*api.Sector),
		"too many sectors":    begin(t, api.MaxSectors).Bytes() + strings.Repeat("\x00", api.Sector),
		"too few sectors":     begin(t, api.MinSectors).Bytes()[api.Sector:],
		"a byte more":         good + "x",
		"a byte less":         good[1:],
		"a sector more":       good + strings.Repeat("\x00", api.Sector),
		"a sector less":       good[:19*api.Sector],
		"no first sector":     good[api.Sector:] + strings.Repeat("\x00", api.Sector),
		"a disk behind other": good + good,
	} {
		if s, e := concord.Open(bytes); s != nil || e != api.ErrBytes {
			t.Errorf("P4: Open of %s: %d", what, e)
		}
	}
}

func TestOpenRefusesMorePathsThanMayBe(t *testing.T) {
	s := begin(t, 60)
	for _, letter := range "abcdefg" {
		put(t, s, api.Left, string(letter), "")
	}
	put(t, s, api.Right, "g", "right")
	at := strings.Index(s.Bytes(), "g\x00\x00\x00\x00\x00\x00\x00right")
	if at < 0 {
		t.Fatal("the file lies otherwise than this test looks for it")
	}
	changed := []byte(s.Bytes())
	changed[at] = 'f'
	checkState(t, "P4: another path of the seven", open(t, string(changed)), strings.ReplaceAll(state(t, s), "1 g", "1 f"))
	changed[at] = 'h'
	if x, e := concord.Open(string(changed)); x != nil || e != api.ErrBytes {
		t.Errorf("P4: Open with 8 paths: %d", e)
	}
}

// Whatever one byte of a disk is changed to: Open refuses it, or its store keeps all promises that can be held against it.
func TestOpenOfChangedBytes(t *testing.T) {
	s := begin(t, api.MinSectors)
	put(t, s, api.Left, "abcdefgh", strings.Repeat("x", api.MaxContent))
	put(t, s, api.Right, "b", "y")
	put(t, s, api.Right, "b", "z")
	remove(t, s, api.Left, "abcdefgh")
	put(t, s, api.Left, "c", "")
	bytes := s.Bytes()
	for at := range len(bytes) {
		for _, flip := range []byte{1, 2, 4, 0x20, 0x80, 0xff} {
			changed := []byte(bytes)
			changed[at] ^= flip
			x, e := concord.Open(string(changed))
			if (x == nil) != (e == api.ErrBytes) || (x != nil && e != api.OK) {
				t.Fatalf("P4: byte %d changed by %d: %d", at, flip, e)
			}
			if x != nil {
				checkSomeStore(t, x, string(changed))
			}
		}
	}
}

// checkSomeStore holds a store of any bytes against what is promised of every store.
func checkSomeStore(t *testing.T, s *concord.Store, bytes string) {
	t.Helper()
	if s.Bytes() != bytes {
		t.Fatal("P4: the store holds other bytes")
	}
	seen := map[string]bool{}
	for set := range 3 {
		paths, e := s.List(set)
		check(t, "P8: List", e, api.OK)
		if !slices.IsSorted(paths) || len(slices.Compact(slices.Clone(paths))) != len(paths) {
			t.Fatalf("P8: %q", paths)
		}
		for _, path := range paths {
			seen[path] = true
			content, e := s.Get(set, path)
			if e != api.OK || !files.IsPath(path) || len(content) > api.MaxContent {
				t.Fatalf("P8: Get(%d, %q) = %q, %d", set, path, content, e)
			}
		}
	}
	if len(seen) > api.MaxPaths {
		t.Fatalf("P4: %d paths", len(seen))
	}
	put(t, s, api.Left, "c", "new")
	if content, e := reopen(t, s).Get(api.Left, "c"); content != "new" || e != api.OK {
		t.Fatalf("P7: %q, %d", content, e)
	}
	remove(t, s, api.Left, "c")
	check(t, "P7: Remove", s.Remove(api.Left, "c"), api.ErrNone)
}
