package files_test

import (
	"fmt"
	"slices"
	"strings"
	"testing"

	"concord/api"
	"concord/disk"
	"concord/files"
)

func empty(sectors int) *disk.Disk {
	return disk.Holding(files.Empty(sectors))
}

func file(set int, path string, content string) files.File {
	return files.File{Name: files.Name{Set: set, Path: path}, Content: content}
}

func put(t *testing.T, d *disk.Disk, f files.File) {
	t.Helper()
	if e := files.Put(d, f); e != api.OK {
		t.Fatalf("Put(%v): %d", f, e)
	}
}

// state tells all files in an order that does not hang on where they lie.
func state(d *disk.Disk) string {
	var rows []string
	for _, f := range files.All(d) {
		rows = append(rows, fmt.Sprintf("%d %s %q", f.Name.Set, f.Name.Path, f.Content))
	}
	slices.Sort(rows)
	return strings.Join(rows, "\n")
}

func TestPathsAreLowerCaseLetters(t *testing.T) {
	for _, path := range []string{"a", "z", "abcdefgh", "zzzzzzzz"} {
		if !files.IsPath(path) {
			t.Errorf("P7: %q is a path", path)
		}
	}
	for _, path := range []string{"", "abcdefghi", "A", "a1", "a b", "a-", "\x00", "ä", "`", "{", "a\n", "abcdefg\xff"} {
		if files.IsPath(path) {
			t.Errorf("P7: %q is no path", path)
		}
	}
}

func TestFilesOfOnePathInDifferentSetsAreDifferentFiles(t *testing.T) {
	d := empty(40)
	put(t, d, file(api.Left, "a", "left"))
	put(t, d, file(api.Right, "a", "right"))
	put(t, d, file(api.Agreed, "a", "agreed"))
	put(t, d, file(files.Journal, "", "journal"))
	put(t, d, file(api.Right, "a", "changed"))
	if e := files.Remove(d, files.Name{Set: api.Left, Path: "a"}); e != api.OK {
		t.Errorf("Remove: %d", e)
	}
	want := "1 a \"changed\"\n2 a \"agreed\"\n3  \"journal\""
	if state(d) != want || !files.Sound(d) {
		t.Errorf("%s, want %s", state(d), want)
	}
	if _, found := files.Find(d, files.Name{Set: api.Left, Path: "a"}); found {
		t.Error("found what was removed")
	}
	if content, found := files.Find(d, files.Name{Set: api.Agreed, Path: "a"}); !found || content != "agreed" {
		t.Errorf("found %q, %v", content, found)
	}
}

func TestAFullDiskIsLeftAsItIs(t *testing.T) {
	d := empty(api.MinSectors)
	for i := range 7 {
		put(t, d, file(api.Left, "abcdefg"[i:i+1], strings.Repeat("x", api.MaxContent)))
	}
	bytes, acts := d.Bytes(), d.Acts()
	if e := files.Put(d, file(api.Left, "a", "y")); e != api.ErrSpace {
		t.Errorf("P7: Put on a full disk: %d", e)
	}
	if e := files.Remove(d, files.Name{Set: api.Left, Path: "h"}); e != api.ErrNone {
		t.Errorf("P7: Remove of nothing: %d", e)
	}
	if d.Bytes() != bytes || d.Acts() != acts {
		t.Error("P7: an error has changed the disk")
	}
	if e := files.Remove(d, files.Name{Set: api.Left, Path: "c"}); e != api.OK {
		t.Errorf("Remove on a full disk: %d", e)
	}
	put(t, d, file(api.Left, "a", "y"))
}

func TestFreeCountsTheSlotsWithoutAFile(t *testing.T) {
	for _, row := range []struct{ sectors, want int }{{16, 7}, {17, 8}, {100, 49}, {109, 54}, {400, 54}} {
		d := empty(row.sectors)
		if files.Free(d) != row.want {
			t.Errorf("P12: %d free slots on %d sectors", files.Free(d), row.sectors)
		}
		put(t, d, file(api.Left, "a", "x"))
		put(t, d, file(api.Left, "a", "y"))
		put(t, d, file(files.Journal, "", ""))
		if files.Free(d) != row.want-2 {
			t.Errorf("P12: %d free slots on %d sectors, behind two files", files.Free(d), row.sectors)
		}
	}
}

func TestAChangedRootOrRecordIsNotSound(t *testing.T) {
	d := empty(20)
	put(t, d, file(api.Left, "abcdefgh", ""))
	put(t, d, file(api.Agreed, "a", "content"))
	bytes := d.Bytes()
	for _, row := range []struct {
		what string
		at   int
		to   byte
	}{
		{"the word", 0, 'C'},
		{"how many sectors", 9, 21},
		{"a mark that is none", 10, 2},
		{"a mark of a slot without a file", 12, 1},
		{"a mark beyond the slots", 63, 1},
		{"a set that is none", 64, 4},
		{"a journal with a path", 64, 3},
		{"no path", 65, 0},
		{"a path too long", 65, 9},
		{"a content too long", 66, 97},
		{"a letter that is none", 67, 'A'},
		{"bytes behind a path", 64*3 + 4, 'b'},
		{"bytes behind a content", 64*3 + 30, 'x'},
		{"bytes behind a record", 64*5 - 1, 1},
	} {
		changed := []byte(bytes)
		changed[row.at] = row.to
		if files.Sound(disk.Holding(string(changed))) {
			t.Errorf("P4: sound with %s", row.what)
		}
	}
	if !files.Sound(disk.Holding(bytes)) {
		t.Error("P4: not sound as it was")
	}
}

func TestOneNameTwiceIsNotSound(t *testing.T) {
	d := empty(20)
	put(t, d, file(api.Left, "a", "x"))
	put(t, d, file(api.Right, "a", "x"))
	changed := []byte(d.Bytes())
	changed[64*3] = api.Left
	if files.Sound(disk.Holding(string(changed))) {
		t.Error("P4: sound with two files of one name")
	}
}

func TestAFailureLeavesEachFileWhole(t *testing.T) {
	name := files.Name{Set: api.Left, Path: "a"}
	changes := map[string]func(d *disk.Disk) api.Errno{
		"put":    func(d *disk.Disk) api.Errno { return files.Put(d, file(api.Left, "a", strings.Repeat("new", 30))) },
		"remove": func(d *disk.Disk) api.Errno { return files.Remove(d, name) },
	}
	start := empty(16)
	put(t, start, file(api.Left, "a", strings.Repeat("old", 32)))
	put(t, start, file(api.Right, "b", "other"))
	for what, change := range changes {
		end := disk.Holding(start.Bytes())
		if e := change(end); e != api.OK {
			t.Fatalf("%s: %d", what, e)
		}
		for after := range end.Acts() {
			for keep := range 8 {
				d := disk.Holding(start.Bytes())
				d.Fail(after, keep)
				if e := change(d); e != api.ErrDown {
					t.Errorf("P6: %s after %d acts: %d", what, after, e)
				}
				x := disk.Holding(d.Bytes())
				if !files.Sound(x) || (state(x) != state(start) && state(x) != state(end)) {
					t.Errorf("P7: %s after %d acts, keeping %b: %s", what, after, keep, state(x))
				}
			}
		}
	}
}
