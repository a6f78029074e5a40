package step_test

import (
	"fmt"
	"slices"
	"strings"
	"testing"

	"concord/api"
	"concord/disk"
	"concord/files"
	"concord/step"
)

// nothing stands in the rows of these tests where a set has no file.
const nothing = "-"

var longest = strings.Repeat("x", api.MaxContent)

func file(set int, path string, content string) files.File {
	return files.File{Name: files.Name{Set: set, Path: path}, Content: content}
}

func journal(text string) files.File { return file(files.Journal, "", text) }

func holding(t *testing.T, sectors int, all ...files.File) *disk.Disk {
	t.Helper()
	d := disk.Holding(files.Empty(sectors))
	for _, f := range all {
		if e := files.Put(d, f); e != api.OK {
			t.Fatalf("Put(%v): %d", f, e)
		}
	}
	return disk.Holding(d.Bytes())
}

// row tells files by what the left side, the right side and the agreed set have at one path.
func row(path string, contents ...string) []files.File {
	var all []files.File
	for set, content := range contents {
		if content != nothing {
			all = append(all, file(set, path, content))
		}
	}
	return all
}

// at tells what the three sets have at a path.
func at(d *disk.Disk, path string) [3]string {
	var contents [3]string
	for set := range contents {
		content, found := files.Find(d, files.Name{Set: set, Path: path})
		if !found {
			content = nothing
		}
		contents[set] = content
	}
	return contents
}

// state tells the files of the three sets in an order that does not hang on where they lie.
func state(d *disk.Disk) string {
	var rows []string
	for _, f := range files.All(d) {
		if f.Name.Set != files.Journal {
			rows = append(rows, fmt.Sprintf("%d %s %q", f.Name.Set, f.Name.Path, f.Content))
		}
	}
	slices.Sort(rows)
	return strings.Join(rows, "\n")
}

func do(t *testing.T, d *disk.Disk) {
	t.Helper()
	steps, _ := step.Find(d)
	if e := step.Begin(d, steps); e != api.OK {
		t.Fatalf("Begin: %d", e)
	}
	if e := step.End(d); e != api.OK {
		t.Fatalf("End: %d", e)
	}
}

func TestEachCaseOfInStep(t *testing.T) {
	for _, c := range []struct {
		what    string
		l, r, o string
		from    int
		becomes string
	}{
		{"put on the left", "x", nothing, nothing, api.Left, "x"},
		{"put on the right", nothing, "", nothing, api.Right, ""},
		{"changed on the left", "y", "x", "x", api.Left, "y"},
		{"changed on the right", "x", "", "x", api.Right, ""},
		{"removed on the left", nothing, "x", "x", api.Left, nothing},
		{"removed on the right", "", nothing, "", api.Right, nothing},
		{"put on both", "x", "x", nothing, api.Left, "x"},
		{"changed on both", "x", "x", "y", api.Left, "x"},
		{"removed on both", nothing, nothing, "x", api.Left, nothing},
	} {
		d := holding(t, 30, row("a", c.l, c.r, c.o)...)
		steps, conflicts := step.Find(d)
		if !slices.Equal(steps, []step.Step{{Path: "a", From: c.from}}) || conflicts != nil || d.Acts() != 0 {
			t.Errorf("P9: %s: %v, %q", c.what, steps, conflicts)
		}
		do(t, d)
		if got := at(d, "a"); got != [3]string{c.becomes, c.becomes, c.becomes} {
			t.Errorf("P9: %s: %q", c.what, got)
		}
	}
}

func TestNoStepAndNoConflict(t *testing.T) {
	for _, content := range []string{nothing, "", "x"} {
		steps, conflicts := step.Find(holding(t, 30, row("a", content, content, content)...))
		if steps != nil || conflicts != nil {
			t.Errorf("P9: %q: %v, %q", content, steps, conflicts)
		}
	}
}

func TestConflicts(t *testing.T) {
	for _, c := range [][3]string{
		{"x", "y", nothing}, {"", "x", nothing}, {"x", "y", "z"}, {nothing, "y", "z"}, {"x", nothing, "z"}, {nothing, "", "x"},
	} {
		steps, conflicts := step.Find(holding(t, 30, row("a", c[:]...)...))
		if steps != nil || !slices.Equal(conflicts, []string{"a"}) {
			t.Errorf("P9: %q: %v, %q", c, steps, conflicts)
		}
	}
}

// The same answer comes each time, however the goroutines run and the map is gone through.
func TestFindPutsTheLesserFirst(t *testing.T) {
	var all []files.File
	for _, path := range []string{"z", "ab", "b", "abcdefgh"} {
		all = append(all, row(path, "left", "right", nothing)...)
	}
	for i, path := range []string{"y", "aa", "c"} {
		all = append(all, file(i%2, path, ""))
	}
	d := holding(t, 60, all...)
	want := []step.Step{{Path: "aa", From: api.Right}, {Path: "c", From: api.Left}, {Path: "y", From: api.Left}}
	for range 200 {
		steps, conflicts := step.Find(d)
		if !slices.Equal(steps, want) || !slices.Equal(conflicts, []string{"ab", "abcdefgh", "b", "z"}) {
			t.Fatalf("P9: %v, %q", steps, conflicts)
		}
	}
}

func TestTheJournalLastsAheadOfTheSteps(t *testing.T) {
	d := holding(t, 60, slices.Concat(row("a", "new", "old", "old"), row("b", nothing, "x", "x"))...)
	before := state(d)
	steps, _ := step.Find(d)
	if step.Pending(d) {
		t.Error("P9: pending ahead of Begin")
	}
	if e := step.Begin(d, steps); e != api.OK {
		t.Fatalf("Begin: %d", e)
	}
	x := disk.Holding(d.Bytes())
	if !step.Pending(x) || !step.Sound(x) || state(x) != before {
		t.Errorf("P10: behind Begin:\n%s", state(x))
	}
	if e := step.End(x); e != api.OK || step.Pending(x) || !files.Sound(x) {
		t.Errorf("P11: End: %d", e)
	}
	if at(x, "a") != [3]string{"new", "new", "new"} || at(x, "b") != [3]string{nothing, nothing, nothing} {
		t.Errorf("P11: behind End:\n%s", state(x))
	}
}

// Seven steps with the longest paths are the most that a journal holds.
func TestTheLongestJournal(t *testing.T) {
	var all []files.File
	for i := range api.MaxPaths {
		all = append(all, file(i%2, "abcdefg"+"tuvwxyz"[i:i+1], longest))
	}
	d := holding(t, 108, all...)
	steps, _ := step.Find(d)
	if e := step.Begin(d, steps); e != api.OK || len(steps) != api.MaxPaths {
		t.Fatalf("P9: Begin of %d steps: %d", len(steps), e)
	}
	x := disk.Holding(d.Bytes())
	if e := step.End(x); !step.Sound(d) || e != api.OK || len(files.All(x)) != 3*api.MaxPaths {
		t.Errorf("P9: End: %d, %d files", e, len(files.All(x)))
	}
}

// Steps that were done in part are done from their beginning again.
func TestFailuresInEnd(t *testing.T) {
	start := holding(t, 60, slices.Concat(row("a", "new", "old", "old"), row("b", nothing, "x", "x"), row("c", nothing, longest, nothing), row("d", "x", "y", "z"))...)
	steps, _ := step.Find(start)
	if e := step.Begin(start, steps); e != api.OK {
		t.Fatalf("Begin: %d", e)
	}
	end := disk.Holding(start.Bytes())
	if e := step.End(end); e != api.OK {
		t.Fatalf("End: %d", e)
	}
	for after := range end.Acts() {
		for keep := range 4 {
			d := disk.Holding(start.Bytes())
			d.Fail(after, keep)
			if e := step.End(d); e != api.ErrDown {
				t.Errorf("P6: End after %d acts: %d", after, e)
			}
			x := disk.Holding(d.Bytes())
			if !files.Sound(x) || !step.Sound(x) || (!step.Pending(x) && state(x) != state(end)) {
				t.Errorf("P10: after %d acts, keeping %b:\n%s", after, keep, state(x))
			}
			if step.Pending(x) && (step.End(x) != api.OK || state(x) != state(end)) {
				t.Errorf("P11: after %d acts, keeping %b:\n%s", after, keep, state(x))
			}
		}
	}
}

// A disk of 16 sectors has seven slots: what fits is counted slot by slot.
func TestRoom(t *testing.T) {
	changed := row("a", "new", "x", "x")
	added := row("b", "new", nothing, nothing)
	removed := row("c", nothing, "x", "x")
	for _, c := range []struct {
		what string
		all  []files.File
		want api.Errno
	}{
		{"changed, two slots free", slices.Concat(changed, row("y", "", "", nothing)), api.OK},
		{"changed, one slot free", slices.Concat(changed, row("y", "", "", "")), api.ErrSpace},
		{"added, three slots free", slices.Concat(added, row("y", "", "", "")), api.OK},
		{"added, two slots free", slices.Concat(added, row("y", "", "", ""), row("z", "", nothing, nothing)), api.ErrSpace},
		{"removed, one slot free", slices.Concat(removed, row("y", "", "", ""), row("z", "", nothing, ""))[:6], api.OK},
		{"removed, no slot free", slices.Concat(removed, row("y", "", "", ""), row("z", "", nothing, "")), api.ErrSpace},
	} {
		d := holding(t, api.MinSectors, c.all...)
		bytes := d.Bytes()
		steps, _ := step.Find(d)
		steps = slices.DeleteFunc(steps, func(s step.Step) bool { return s.Path > "x" })
		e := step.Begin(d, steps)
		if e != c.want {
			t.Errorf("P9: %s: %d", c.what, e)
		}
		if e == api.ErrSpace && (d.Acts() != 0 || d.Bytes() != bytes) {
			t.Errorf("P9: %s: ErrSpace has changed the disk", c.what)
		}
		if e == api.OK && (!step.Sound(d) || step.End(d) != api.OK) {
			t.Errorf("P9: %s: what was begun can't be ended", c.what)
		}
	}
}

func TestAJournalThatIsNoneIsNotSound(t *testing.T) {
	for _, text := range []string{
		"", "a", "L", "R", "l", "La ", "LaL", "LRa", "aLa", "LA", "La1", "Labcdefghi", "LaRa", "LaLa", "LbRa", "La\x00", "\xffa",
	} {
		d := holding(t, 60, journal(text), file(api.Left, "a", "x"))
		if step.Sound(d) || !step.Pending(d) {
			t.Errorf("P4: sound with the journal %q", text)
		}
	}
	for _, text := range []string{"La", "Ra", "Labcdefgh", "LaRb", "RaRaaLb"} {
		if !step.Sound(holding(t, 60, journal(text), file(api.Left, "a", "x"))) {
			t.Errorf("P4: not sound with the journal %q", text)
		}
	}
	if !step.Sound(holding(t, 60, file(api.Left, "a", "x"))) {
		t.Error("P4: not sound without a journal")
	}
}

func TestAJournalWithoutRoomForItsStepsIsNotSound(t *testing.T) {
	all := slices.Concat([]files.File{journal("La")}, row("a", "new", nothing, nothing), row("y", "", "", ""))
	if !step.Sound(holding(t, api.MinSectors, all...)) {
		t.Error("P4: not sound with two free slots for two files")
	}
	if step.Sound(holding(t, api.MinSectors, append(all, file(api.Left, "z", ""))...)) {
		t.Error("P4: sound with one free slot for two files")
	}
}
