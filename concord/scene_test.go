package concord_test

import (
	"fmt"
	"strings"
	"testing"

	"concord/api"
)

// scene is a disk on which a Sync has something to do, and what it should do.
type scene struct {
	what   string
	bytes  string
	start  model
	end    model
	report api.Report
}

func newScene(what string, bytes string, start model) scene {
	end := start.copied()
	report := end.sync()
	what = fmt.Sprintf("%s, %d sectors", what, len(bytes)/api.Sector)
	return scene{what: what, bytes: bytes, start: start, end: end, report: report}
}

func wide(t *testing.T, what string, start model) scene {
	t.Helper()
	return newScene(what, holding(t, 200, start.files()...).Bytes(), start)
}

// tight takes the smallest disk on which the Sync finds room: a sector less, and it finds none.
func tight(t *testing.T, what string, start model) scene {
	t.Helper()
	for sectors := api.MinSectors; sectors <= api.MaxSectors; sectors++ {
		bytes, e := laid(sectors, start.files())
		if e != api.OK {
			continue
		}
		if _, e := open(t, bytes).Sync(); e == api.OK && sectors == api.MinSectors {
			t.Fatalf("%s: there is more room than needed on the smallest disk", what)
		} else if e == api.OK {
			return newScene(what, bytes, start)
		}
	}
	t.Fatalf("P9: %s: no disk has room", what)
	return scene{}
}

var kinds = []struct {
	what    string
	l, r, o has
}{
	{"put on the left", has{true, "new"}, has{}, has{}},
	{"put on the right", has{}, has{true, ""}, has{}},
	{"put on both", has{true, longest}, has{true, longest}, has{}},
	{"changed on the left", has{true, ""}, has{true, longest}, has{true, longest}},
	{"changed on the right", has{true, longest[1:]}, has{true, longest}, has{true, longest[1:]}},
	{"changed on both", has{true, "new"}, has{true, "new"}, has{true, "old"}},
	{"removed on the left", has{}, has{true, "x"}, has{true, "x"}},
	{"removed on the right", has{true, ""}, has{}, has{true, ""}},
	{"removed on both", has{}, has{}, has{true, longest}},
}

// besideConflicts has one path as it is told, and one conflict ahead of it and two behind it.
func besideConflicts(l has, r has, o has) model {
	m := model{
		{"a": "1", "y": "4", "z": longest},
		{"a": "2", "z": longest[1:]},
		{"y": "3"},
	}
	m.become(api.Left, "m", l)
	m.become(api.Right, "m", r)
	m.become(api.Agreed, "m", o)
	return m
}

// rest has the kinds of step that many has not.
func rest() model {
	return model{
		{"a": "new", "c": "old", "d": "old", "e": "new", "f": "1"},
		{"b": longest, "c": "", "e": "new", "f": "2", "g": "1"},
		{"c": "old", "d": "old", "e": "old", "g": "2"},
	}
}

// seven has all the paths that may be, of one kind, from the one side and the other by turns.
func seven(changed has, agreed has) model {
	m := emptyModel()
	for i, path := range strings.Split("abcdefg", "") {
		m.become(i%2, path, changed)
		m.become(1-i%2, path, agreed)
		m.become(api.Agreed, path, agreed)
	}
	return m
}

// smallScenes have one step each, with conflicts beside it.
func smallScenes(t *testing.T) []scene {
	t.Helper()
	var all []scene
	for _, k := range kinds {
		m := besideConflicts(k.l, k.r, k.o)
		all = append(all, wide(t, k.what, m), tight(t, k.what, m))
	}
	return all
}

func bigScenes(t *testing.T) []scene {
	t.Helper()
	return []scene{
		wide(t, "many paths", many()),
		tight(t, "many paths", many()),
		wide(t, "the rest of the kinds", rest()),
		tight(t, "the rest of the kinds", rest()),
		wide(t, "seven put", seven(has{true, longest}, has{})),
		tight(t, "seven put", seven(has{true, longest}, has{})),
		tight(t, "seven changed", seven(has{true, longest}, has{true, ""})),
		tight(t, "seven removed", seven(has{}, has{true, longest})),
	}
}

func eachScene(t *testing.T, try func(t *testing.T, sc scene)) {
	t.Helper()
	for _, sc := range append(smallScenes(t), bigScenes(t)...) {
		t.Run(sc.what, func(t *testing.T) {
			t.Parallel()
			try(t, sc)
		})
	}
}
