package concord_test

import (
	"fmt"
	"strings"
	"testing"

	"concord/api"
	"concord/concord"
	"concord/disk"
	"concord/files"
)

func begin(t *testing.T, sectors int) *concord.Store {
	t.Helper()
	s, e := concord.New(sectors)
	if s == nil || e != api.OK {
		t.Fatalf("P3: New(%d): %d", sectors, e)
	}
	return s
}

// reopen opens a copy of a store's bytes.
func reopen(t *testing.T, s *concord.Store) *concord.Store {
	t.Helper()
	return open(t, s.Bytes())
}

func open(t *testing.T, bytes string) *concord.Store {
	t.Helper()
	s, e := concord.Open(strings.Clone(bytes))
	if s == nil || e != api.OK {
		t.Fatalf("P4: Open: %d", e)
	}
	return s
}

// laid tells the bytes of a disk with files in any set, those that no call can put there too.
func laid(sectors int, all []files.File) (string, api.Errno) {
	d := disk.Holding(files.Empty(sectors))
	for _, f := range all {
		if e := files.Put(d, f); e != api.OK {
			return "", e
		}
	}
	return d.Bytes(), api.OK
}

func holding(t *testing.T, sectors int, all ...files.File) *concord.Store {
	t.Helper()
	bytes, e := laid(sectors, all)
	if e != api.OK {
		t.Fatalf("no room for %d files: %d", len(all), e)
	}
	return open(t, bytes)
}

func file(set int, path string, content string) files.File {
	return files.File{Name: files.Name{Set: set, Path: path}, Content: content}
}

func check(t *testing.T, what string, got api.Errno, want api.Errno) {
	t.Helper()
	if got != want {
		t.Errorf("%s: %d, want %d", what, got, want)
	}
}

func put(t *testing.T, s *concord.Store, side int, path string, content string) {
	t.Helper()
	check(t, fmt.Sprintf("P7: Put(%d, %q)", side, path), s.Put(side, path, content), api.OK)
}

func remove(t *testing.T, s *concord.Store, side int, path string) {
	t.Helper()
	check(t, fmt.Sprintf("P7: Remove(%d, %q)", side, path), s.Remove(side, path), api.OK)
}

// state tells all files of the three sets, as List and Get tell them.
func state(t *testing.T, s *concord.Store) string {
	t.Helper()
	var all strings.Builder
	for set := range 3 {
		paths, e := s.List(set)
		check(t, "P8: List", e, api.OK)
		for _, path := range paths {
			content, e := s.Get(set, path)
			check(t, "P8: Get", e, api.OK)
			fmt.Fprintf(&all, "%d %s %q\n", set, path, content)
		}
	}
	return all.String()
}

func checkState(t *testing.T, what string, s *concord.Store, want string) {
	t.Helper()
	if got := state(t, s); got != want {
		t.Errorf("%s:\n%swant\n%s", what, got, want)
	}
}
