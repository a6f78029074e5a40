// Package step finds what is to be done to bring both sides into step, and does it.
//
// What is to be done is written into a journal first. A step never changes the side from which it takes a content, so
// the journal need only name that side: when the disk has failed midway, the steps can be done from their beginning again.
package step

import (
	"maps"
	"slices"
	"sync"

	"concord/api"
	"concord/disk"
	"concord/files"
)

// Step is a path with which something is to be done: the other side and the agreed set get what the side From has there.
type Step struct {
	Path string
	From int
}

// sides is how many sides there are: Left and Right, whose numbers are the first two.
const sides = 2

// held is what a set has at a path: a content, or nothing.
type held struct {
	there   bool
	content string
}

// finding tells of one path which sides have changed it since it was agreed on, and what these have there now.
type finding struct {
	changed [sides]bool
	now     [sides]held
}

// findings holds what the goroutines find. A path is in it only if a side has changed it.
type findings struct {
	mutex  sync.Mutex
	byPath map[string]finding
}

// Find tells all steps, and the paths that are in conflict, the lesser first.
func Find(d *disk.Disk) ([]Step, []string) {
	var steps []Step
	var conflicts []string
	found := lookThrough(d)
	for _, path := range slices.Sorted(maps.Keys(found)) {
		if from, agree := found[path].source(); agree {
			steps = append(steps, Step{Path: path, From: from})
		} else {
			conflicts = append(conflicts, path)
		}
	}
	return steps, conflicts
}

// lookThrough looks both sides through at the same time. Nobody may write on the disk meanwhile.
func lookThrough(d *disk.Disk) map[string]finding {
	found := findings{byPath: map[string]finding{}}
	var both sync.WaitGroup
	for side := range sides {
		both.Go(func() { found.look(d, side) })
	}
	both.Wait()
	return found.byPath
}

// look finds the paths that one side has changed.
func (f *findings) look(d *disk.Disk, side int) {
	now, agreed := contents(d, side), contents(d, api.Agreed)
	for path, h := range now {
		if h != agreed[path] {
			f.put(path, side, h)
		}
	}
	for path := range agreed {
		if !now[path].there {
			f.put(path, side, held{})
		}
	}
}

func (f *findings) put(path string, side int, now held) {
	f.mutex.Lock()
	defer f.mutex.Unlock()
	found := f.byPath[path]
	found.changed[side] = true
	found.now[side] = now
	f.byPath[path] = found
}

// contents tells what a set has, by path.
func contents(d *disk.Disk, set int) map[string]held {
	byPath := map[string]held{}
	for _, f := range files.All(d) {
		if f.Name.Set == set {
			byPath[f.Name.Path] = held{there: true, content: f.Content}
		}
	}
	return byPath
}

// source tells which side the other and the agreed set follow, and false if the path is in conflict.
func (f finding) source() (int, bool) {
	if !f.changed[api.Left] {
		return api.Right, true
	}
	if !f.changed[api.Right] || f.now[api.Left] == f.now[api.Right] {
		return api.Left, true
	}
	return 0, false
}
