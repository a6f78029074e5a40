// Package files keeps small files on a disk, each of them whole at any time.
//
// The first sector is the root, which marks the slots that hold a file; a slot is the two sectors of one file.
// A file is always written into a free slot, and lasts there before the root is written, which takes that slot and lets
// the file's older one go. As a sector is written whole or not at all, so is a file put or removed whole or not at all.
package files

import (
	"slices"
	"strings"

	"concord/api"
	"concord/disk"
)

// Journal is the set of the journal, beside the three of package api. Its one file has an empty path.
const Journal = 3

// Name tells one file from the others.
type Name struct {
	Set  int
	Path string
}

// File is a name and what lies under it.
type File struct {
	Name    Name
	Content string
}

// IsPath tells whether a text is a path of a side's file.
func IsPath(path string) bool {
	if len(path) < 1 || len(path) > api.MaxPath {
		return false
	}
	for _, letter := range []byte(path) {
		if letter < 'a' || letter > 'z' {
			return false
		}
	}
	return true
}

// Empty tells the bytes of a disk that holds no file.
func Empty(sectors int) string {
	root := emptyRoot(sectors)
	return string(root[:]) + strings.Repeat("\x00", (sectors-1)*api.Sector)
}

// Sound tells whether the disk holds what this package writes, so that the other functions may be asked.
func Sound(d *disk.Disk) bool {
	return soundRoot(d) && soundRecords(d) && soundNames(d)
}

// soundRoot makes the root anew from what is read out of it, so that nothing in it goes unseen.
func soundRoot(d *disk.Disk) bool {
	root := emptyRoot(d.Sectors())
	for _, slot := range takenSlots(d) {
		root[marksAt+slot] = taken
	}
	return root == d.Read(rootSector)
}

func soundRecords(d *disk.Disk) bool {
	for _, slot := range takenSlots(d) {
		r := readRecord(d, slot)
		if encode(decode(r)) != r {
			return false
		}
	}
	return true
}

func soundNames(d *disk.Disk) bool {
	var seen []Name
	for _, f := range All(d) {
		if !isName(f.Name) || slices.Contains(seen, f.Name) {
			return false
		}
		seen = append(seen, f.Name)
	}
	return true
}

func isName(name Name) bool {
	switch name.Set {
	case api.Left, api.Right, api.Agreed:
		return IsPath(name.Path)
	case Journal:
		return name.Path == ""
	}
	return false
}

// All tells all files, in the order in which they lie on the disk.
func All(d *disk.Disk) []File {
	var all []File
	for _, slot := range takenSlots(d) {
		all = append(all, decode(readRecord(d, slot)))
	}
	return all
}

// Find tells what lies under a name, and whether anything does.
func Find(d *disk.Disk, name Name) (string, bool) {
	slot := slotOf(d, name)
	if slot == noSlot {
		return "", false
	}
	return decode(readRecord(d, slot)).Content, true
}

// Put writes a file in place of what lies under its name; it needs a free slot, whether anything lies there or not.
func Put(d *disk.Disk, f File) api.Errno {
	slot := freeSlot(d)
	if slot == noSlot {
		return api.ErrSpace
	}
	old := slotOf(d, f.Name)
	if e := writeRecord(d, slot, encode(f)); e != api.OK {
		return e
	}
	return mark(d, slot, old)
}

// Remove removes what lies under a name. It needs no room.
func Remove(d *disk.Disk, name Name) api.Errno {
	slot := slotOf(d, name)
	if slot == noSlot {
		return api.ErrNone
	}
	return mark(d, noSlot, slot)
}

// Free tells how many slots hold no file. Each file that is put needs one, and the older one of its name frees one then.
func Free(d *disk.Disk) int {
	return slotCount(d.Sectors()) - len(takenSlots(d))
}

func slotOf(d *disk.Disk, name Name) int {
	for _, slot := range takenSlots(d) {
		if decode(readRecord(d, slot)).Name == name {
			return slot
		}
	}
	return noSlot
}
