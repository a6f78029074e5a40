// Package concord keeps two sides of files in step. See DOC.md.
package concord

import (
	"slices"

	"concord/api"
	"concord/disk"
	"concord/files"
	"concord/step"
)

// Store is two sides of files, and what they agreed on, on a disk. All of them lie on the disk and nowhere else.
type Store struct {
	disk *disk.Disk
}

// New makes a store on a new disk of so many sectors (P3).
func New(sectors int) (*Store, api.Errno) {
	if !isSize(sectors) {
		return nil, api.ErrArg
	}
	return holding(files.Empty(sectors)), api.OK
}

// Open makes a store of a disk's bytes (P4).
func Open(disk string) (*Store, api.Errno) {
	if len(disk)%api.Sector != 0 || !isSize(len(disk)/api.Sector) {
		return nil, api.ErrBytes
	}
	s := holding(disk)
	if !s.isSound() {
		return nil, api.ErrBytes
	}
	return s, api.OK
}

func holding(bytes string) *Store {
	return &Store{disk: disk.Holding(bytes)}
}

// isSound tells whether the disk is one that calls on a new store can have made, as far as its files show it.
func (s *Store) isSound() bool {
	return files.Sound(s.disk) && countPaths(files.All(s.disk)) <= api.MaxPaths && step.Sound(s.disk)
}

func isSize(sectors int) bool {
	return sectors >= api.MinSectors && sectors <= api.MaxSectors
}

// Bytes tells what the disk holds (P5).
func (s *Store) Bytes() string {
	if s.hasNoDisk() {
		return ""
	}
	return s.disk.Bytes()
}

// Fail lets the disk fail when it has done so many acts more (P6).
func (s *Store) Fail(after int, keep int) api.Errno {
	if s.isDown() {
		return api.ErrDown
	}
	if after < 0 {
		return api.ErrArg
	}
	s.disk.Fail(after, keep)
	return api.OK
}

// Acts tells how many acts the disk has done (P6).
func (s *Store) Acts() int {
	if s.hasNoDisk() {
		return 0
	}
	return s.disk.Acts()
}

// Put writes a file of a side (P7).
func (s *Store) Put(side int, path string, content string) api.Errno {
	if s.hasNoDisk() {
		return api.ErrDown
	}
	if !isSide(side) || !files.IsPath(path) || len(content) > api.MaxContent {
		return api.ErrArg
	}
	if e := s.mayChange(); e != api.OK {
		return e
	}
	f := files.File{Name: files.Name{Set: side, Path: path}, Content: content}
	if countPaths(append(files.All(s.disk), f)) > api.MaxPaths {
		return api.ErrMany
	}
	return files.Put(s.disk, f)
}

// Remove removes a file of a side (P7).
func (s *Store) Remove(side int, path string) api.Errno {
	if s.hasNoDisk() {
		return api.ErrDown
	}
	if !isSide(side) || !files.IsPath(path) {
		return api.ErrArg
	}
	if e := s.mayChange(); e != api.OK {
		return e
	}
	return files.Remove(s.disk, files.Name{Set: side, Path: path})
}

// Get reads a file (P8).
func (s *Store) Get(side int, path string) (string, api.Errno) {
	if s.hasNoDisk() {
		return "", api.ErrDown
	}
	if !isSet(side) || !files.IsPath(path) {
		return "", api.ErrArg
	}
	if s.isDown() {
		return "", api.ErrDown
	}
	content, found := files.Find(s.disk, files.Name{Set: side, Path: path})
	if !found {
		return "", api.ErrNone
	}
	return content, api.OK
}

// List tells the paths of a side (P8).
func (s *Store) List(side int) ([]string, api.Errno) {
	if s.hasNoDisk() {
		return nil, api.ErrDown
	}
	if !isSet(side) {
		return nil, api.ErrArg
	}
	if s.isDown() {
		return nil, api.ErrDown
	}
	var paths []string
	for _, f := range files.All(s.disk) {
		if f.Name.Set == side {
			paths = append(paths, f.Name.Path)
		}
	}
	slices.Sort(paths)
	return paths, api.OK
}

// Sync brings both sides into step (P9, P10).
func (s *Store) Sync() (api.Report, api.Errno) {
	if e := s.mayChange(); e != api.OK {
		return api.Report{}, e
	}
	steps, conflicts := step.Find(s.disk)
	if e := s.do(steps); e != api.OK {
		return api.Report{}, e
	}
	return api.Report{Steps: len(steps), Conflicts: conflicts}, api.OK
}

// do does nothing at all if there are no steps: no journal either.
func (s *Store) do(steps []step.Step) api.Errno {
	if len(steps) == 0 {
		return api.OK
	}
	if e := step.Begin(s.disk, steps); e != api.OK {
		return e
	}
	return step.End(s.disk)
}

// Recover ends a Sync that was begun (P11).
func (s *Store) Recover() api.Errno {
	if s.isDown() {
		return api.ErrDown
	}
	if !step.Pending(s.disk) {
		return api.OK
	}
	return step.End(s.disk)
}

// hasNoDisk is true too of a Store that neither New nor Open made, so that no call trips over it.
func (s *Store) hasNoDisk() bool { return s == nil || s.disk == nil }

func (s *Store) isDown() bool { return s.hasNoDisk() || s.disk.Failed() }

// mayChange tells why the files may not be changed now, or OK.
func (s *Store) mayChange() api.Errno {
	if s.isDown() {
		return api.ErrDown
	}
	if step.Pending(s.disk) {
		return api.ErrPending
	}
	return api.OK
}

func isSide(side int) bool { return side == api.Left || side == api.Right }

func isSet(side int) bool { return isSide(side) || side == api.Agreed }

// countPaths tells how many different paths these files have. The journal has none.
func countPaths(all []files.File) int {
	var paths []string
	for _, f := range all {
		if f.Name.Set != files.Journal {
			paths = append(paths, f.Name.Path)
		}
	}
	slices.Sort(paths)
	return len(slices.Compact(paths))
}
