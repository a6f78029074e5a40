package files

import (
	"concord/api"
	"concord/disk"
)

// Where the parts of a record lie. What they leave over is zero.
const (
	setAt           = 0
	pathLengthAt    = 1
	contentLengthAt = 2
	pathAt          = 3
	contentAt       = pathAt + api.MaxPath
)

// slotSectors is how many sectors a slot has: enough for the longest path with the longest content.
const slotSectors = 2

// record is a file as a slot of the disk holds it.
type record [slotSectors * api.Sector]byte

func encode(f File) record {
	var r record
	r[setAt] = byte(f.Name.Set)
	r[pathLengthAt] = byte(len(f.Name.Path))
	r[contentLengthAt] = byte(len(f.Content))
	copy(r[pathAt:contentAt], f.Name.Path)
	copy(r[contentAt:], f.Content)
	return r
}

// decode keeps within the limits at any bytes, so that it may be asked before they are known to be sound.
func decode(r record) File {
	pathEnd := pathAt + min(int(r[pathLengthAt]), api.MaxPath)
	contentEnd := contentAt + min(int(r[contentLengthAt]), api.MaxContent)
	return File{
		Name:    Name{Set: int(r[setAt]), Path: string(r[pathAt:pathEnd])},
		Content: string(r[contentAt:contentEnd]),
	}
}

func readRecord(d *disk.Disk, slot int) record {
	var r record
	for i := range slotSectors {
		block := d.Read(firstSector(slot) + i)
		copy(r[i*api.Sector:], block[:])
	}
	return r
}

// writeRecord flushes, since the root may tell of a record only when that lasts.
func writeRecord(d *disk.Disk, slot int, r record) api.Errno {
	for i := range slotSectors {
		var block disk.Block
		copy(block[:], r[i*api.Sector:])
		if e := d.Write(firstSector(slot)+i, block); e != api.OK {
			return e
		}
	}
	return d.Flush()
}

func firstSector(slot int) int { return rootSector + 1 + slot*slotSectors }
