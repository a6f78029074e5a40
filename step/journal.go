package step

import (
	"strings"

	"concord/disk"
	"concord/files"
)

// sideLetters begin a step in the journal, by side: no path has a capital letter, so they end the step ahead of it too.
const sideLetters = "LR"

func journalName() files.Name { return files.Name{Set: files.Journal} }

// Pending tells whether steps were begun and not ended: the journal is on the disk exactly that long.
func Pending(d *disk.Disk) bool {
	_, found := files.Find(d, journalName())
	return found
}

// Sound tells whether there is no journal, or one that Begin can have written and that End has the room for.
func Sound(d *disk.Disk) bool {
	text, found := files.Find(d, journalName())
	if !found {
		return true
	}
	steps, good := decode(text)
	return good && fits(d, steps, files.Free(d))
}

// encode takes up to MaxPaths steps: as they hold no contents, one file has room for all of them.
func encode(steps []Step) string {
	var text strings.Builder
	for _, s := range steps {
		text.WriteByte(sideLetters[s.From])
		text.WriteString(s.Path)
	}
	return text.String()
}

// decode tells false of a text that is not what encode makes of some steps in order.
func decode(text string) ([]Step, bool) {
	var steps []Step
	for rest := text; rest != ""; {
		from := strings.IndexByte(sideLetters, rest[0])
		path := rest[1:]
		if end := strings.IndexAny(path, sideLetters); end >= 0 {
			path = path[:end]
		}
		if from < 0 || !files.IsPath(path) {
			return nil, false
		}
		steps = append(steps, Step{Path: path, From: from})
		rest = rest[1+len(path):]
	}
	return steps, len(steps) > 0 && isInOrder(steps)
}

// isInOrder: no path comes twice, since then one step could change what the other takes.
func isInOrder(steps []Step) bool {
	for i := range len(steps) - 1 {
		if steps[i].Path >= steps[i+1].Path {
			return false
		}
	}
	return true
}
