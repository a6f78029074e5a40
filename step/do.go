package step

import (
	"concord/api"
	"concord/disk"
	"concord/files"
)

// write is what one file becomes, and whether it was there.
type write struct {
	name     files.Name
	becomes  held
	replaces bool
}

// Begin writes the journal, so that it lasts. If there is no room for it or for the steps, it does nothing.
func Begin(d *disk.Disk, steps []Step) api.Errno {
	if !fits(d, steps, files.Free(d)-1) {
		return api.ErrSpace
	}
	return files.Put(d, files.File{Name: journalName(), Content: encode(steps)})
}

// End does what is left of the steps in the journal, and removes it. Begin or Sound have seen to it that there is room.
func End(d *disk.Disk) api.Errno {
	text, _ := files.Find(d, journalName())
	steps, _ := decode(text)
	for _, w := range writes(d, steps) {
		if e := w.do(d); e != api.OK {
			return e
		}
	}
	return files.Remove(d, journalName())
}

// writes tells what of the steps is not done yet, in order.
func writes(d *disk.Disk, steps []Step) []write {
	var all []write
	for _, s := range steps {
		becomes := find(d, files.Name{Set: s.From, Path: s.Path})
		for _, set := range [...]int{otherSide(s.From), api.Agreed} {
			name := files.Name{Set: set, Path: s.Path}
			if was := find(d, name); was != becomes {
				all = append(all, write{name: name, becomes: becomes, replaces: was.there})
			}
		}
	}
	return all
}

func (w write) do(d *disk.Disk) api.Errno {
	if !w.becomes.there {
		return files.Remove(d, w.name)
	}
	return files.Put(d, files.File{Name: w.name, Content: w.becomes.content})
}

// fits tells whether so many free slots are enough to do the steps, each write of them behind the other.
func fits(d *disk.Disk, steps []Step, free int) bool {
	if free < 0 {
		return false
	}
	for _, w := range writes(d, steps) {
		switch {
		case !w.becomes.there:
			free++
		case free == 0:
			return false
		case !w.replaces:
			free--
		}
	}
	return true
}

func find(d *disk.Disk, name files.Name) held {
	content, found := files.Find(d, name)
	return held{there: found, content: content}
}

func otherSide(side int) int { return api.Left + api.Right - side }
