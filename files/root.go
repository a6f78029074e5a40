package files

import (
	"concord/api"
	"concord/disk"
)

const rootSector = 0

// Where the parts of the root lie: a word to know it by, how many sectors the disk has, a mark for each slot.
const (
	magic   = "concord1"
	sizeAt  = len(magic)
	marksAt = sizeAt + 2
)

// The marks of a slot.
const (
	free  = 0
	taken = 1
)

// noSlot is told where there is no slot of the kind asked for.
const noSlot = -1

// slotCount tells how many slots there are: as many as the disk and the marks of the root have room for.
func slotCount(sectors int) int {
	return min((sectors-1)/slotSectors, api.Sector-marksAt)
}

func emptyRoot(sectors int) disk.Block {
	var root disk.Block
	copy(root[:], magic)
	root[sizeAt] = byte(sectors >> 8)
	root[sizeAt+1] = byte(sectors)
	return root
}

// takenSlots tells the slots that hold a file, the lesser first.
func takenSlots(d *disk.Disk) []int {
	var slots []int
	root := d.Read(rootSector)
	for slot := range slotCount(d.Sectors()) {
		if root[marksAt+slot] == taken {
			slots = append(slots, slot)
		}
	}
	return slots
}

func freeSlot(d *disk.Disk) int {
	root := d.Read(rootSector)
	for slot := range slotCount(d.Sectors()) {
		if root[marksAt+slot] == free {
			return slot
		}
	}
	return noSlot
}

// mark takes one slot and lets another go, both or neither, since the root is one sector. Either may be noSlot.
func mark(d *disk.Disk, takes int, frees int) api.Errno {
	root := d.Read(rootSector)
	if takes != noSlot {
		root[marksAt+takes] = taken
	}
	if frees != noSlot {
		root[marksAt+frees] = free
	}
	if e := d.Write(rootSector, root); e != api.OK {
		return e
	}
	return d.Flush()
}
