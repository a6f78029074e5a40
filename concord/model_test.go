package concord_test

import (
	"fmt"
	"maps"
	"math/rand"
	"slices"
	"strings"
	"testing"

	"concord/api"
	"concord/concord"
	"concord/files"
)

// model is what the three sets should hold.
type model [3]map[string]string

func emptyModel() model { return model{{}, {}, {}} }

func (m model) state() string {
	var all strings.Builder
	for set, held := range m {
		for _, path := range slices.Sorted(maps.Keys(held)) {
			fmt.Fprintf(&all, "%d %s %q\n", set, path, held[path])
		}
	}
	return all.String()
}

// paths tells all different paths, the lesser first.
func (m model) paths() []string {
	var all []string
	for _, held := range m {
		all = slices.AppendSeq(all, maps.Keys(held))
	}
	slices.Sort(all)
	return slices.Compact(all)
}

// count tells how many files there are in all three sets together.
func (m model) count() int { return len(m[0]) + len(m[1]) + len(m[2]) }

func (m model) put(side int, path string, content string) api.Errno {
	if paths := m.paths(); len(paths) == api.MaxPaths && !slices.Contains(paths, path) {
		return api.ErrMany
	}
	m[side][path] = content
	return api.OK
}

func (m model) remove(side int, path string) api.Errno {
	if _, found := m[side][path]; !found {
		return api.ErrNone
	}
	delete(m[side], path)
	return api.OK
}

// has is a content, or nothing.
type has struct {
	there   bool
	content string
}

func (m model) get(set int, path string) has {
	content, found := m[set][path]
	return has{found, content}
}

func (m model) become(set int, path string, h has) {
	if h.there {
		m[set][path] = h.content
	} else {
		delete(m[set], path)
	}
}

// sync goes by the words of "In step".
func (m model) sync() api.Report {
	var report api.Report
	for _, path := range m.paths() {
		l, r, o := m.get(api.Left, path), m.get(api.Right, path), m.get(api.Agreed, path)
		switch {
		case l == r && o == l:
			continue
		case l == r:
			m.become(api.Agreed, path, l)
		case l == o:
			m.become(api.Left, path, r)
			m.become(api.Agreed, path, r)
		case r == o:
			m.become(api.Right, path, l)
			m.become(api.Agreed, path, l)
		default:
			report.Conflicts = append(report.Conflicts, path)
			continue
		}
		report.Steps++
	}
	return report
}

func (m model) copied() model { return model{maps.Clone(m[0]), maps.Clone(m[1]), maps.Clone(m[2])} }

// files tells the model's files, to lay them on a disk.
func (m model) files() []files.File {
	var all []files.File
	for set, held := range m {
		for _, path := range slices.Sorted(maps.Keys(held)) {
			all = append(all, file(set, path, held[path]))
		}
	}
	return all
}

// someModel has any files at up to so many paths, alike often enough that each case of "In step" comes.
func someModel(r *rand.Rand, paths int) model {
	m := emptyModel()
	for _, path := range strings.Split("abcdefg"[:paths], "") {
		for set := range m {
			if r.Intn(4) > 0 {
				m[set][path] = []string{"", "x", longest}[r.Intn(3)]
			}
		}
	}
	return m
}

// call is one call, which can be made on a model and on stores.
type call struct {
	kind    int
	side    int
	path    string
	content string
}

const (
	puts = iota
	removes
	syncs
)

// answer is what a call answers.
func answer(report api.Report, e api.Errno) string {
	return fmt.Sprintf("%d: %d steps, conflicts %q", e, report.Steps, report.Conflicts)
}

var (
	down   = answer(api.Report{}, api.ErrDown)
	noRoom = answer(api.Report{}, api.ErrSpace)
)

func (c call) onModel(m model) string {
	switch c.kind {
	case puts:
		return answer(api.Report{}, m.put(c.side, c.path, c.content))
	case removes:
		return answer(api.Report{}, m.remove(c.side, c.path))
	}
	return answer(m.sync(), api.OK)
}

func (c call) onStore(s *concord.Store) string {
	switch c.kind {
	case puts:
		return answer(api.Report{}, s.Put(c.side, c.path, c.content))
	case removes:
		return answer(api.Report{}, s.Remove(c.side, c.path))
	}
	return answer(s.Sync())
}

func someCall(r *rand.Rand) call {
	path := []string{"a", "b", "c", "dd", "ddd", "abcdefgh", "zzzzzzzz", "y", "yy"}[r.Intn(9)]
	content := make([]byte, []int{0, 1, 40, 53, 54, 95, 96}[r.Intn(7)])
	for i := range content {
		content[i] = byte(r.Intn(256))
	}
	kind := []int{puts, puts, puts, puts, removes, removes, removes, syncs}[r.Intn(8)]
	return call{kind: kind, side: r.Intn(2), path: path, content: string(content)}
}

func checkAnswer(t *testing.T, what string, got string, want string) {
	t.Helper()
	if got != want {
		t.Errorf("%s: %s, want %s", what, got, want)
	}
}

// Many calls are made on a model, on a store, on one like it, and on one that is opened anew for each call.
func TestCallsAgainstAModel(t *testing.T) {
	for seed := range int64(20) {
		r := rand.New(rand.NewSource(seed))
		sectors := 108 + r.Intn(293)
		m := emptyModel()
		s, like, bystander := begin(t, sectors), begin(t, sectors), begin(t, sectors)
		put(t, bystander, api.Left, "a", "x")
		apart := bystander.Bytes()
		for k := range 200 {
			c, was := someCall(r), s.Acts()
			want := c.onModel(m)
			anew := reopen(t, s)
			checkAnswer(t, "P7, P9", c.onStore(s), want)
			checkAnswer(t, "P2", c.onStore(like), want)
			checkAnswer(t, "P2: opened anew", c.onStore(anew), want)
			checkState(t, fmt.Sprintf("P7, P9: seed %d, call %d", seed, k), s, m.state())
			if s.Bytes() != like.Bytes() || s.Acts() != like.Acts() {
				t.Fatal("P2: the same calls make another disk")
			}
			if s.Bytes() != anew.Bytes() || s.Acts()-was != anew.Acts() {
				t.Fatal("P2: a store that was opened goes on otherwise")
			}
		}
		if bystander.Bytes() != apart {
			t.Error("P2: one store has changed another")
		}
	}
}

// The disk fails again and again, and each time a store is opened on its bytes.
func TestFailuresAgainstAModel(t *testing.T) {
	for seed, sectors := range []int{108, 60, 36, 28, 20, api.MinSectors} {
		failures, recoveries := failAgainAndAgain(t, sectors, rand.New(rand.NewSource(int64(seed))))
		if failures < 100 || recoveries < 10 {
			t.Errorf("%d sectors: only %d failures, %d of them with a Sync pending", sectors, failures, recoveries)
		}
	}
}

// failAgainAndAgain tells how often the disk failed, and how often a Sync was pending then. A disk without room is left for a
// new one, since hardly anything happens on a full one.
func failAgainAndAgain(t *testing.T, sectors int, r *rand.Rand) (int, int) {
	t.Helper()
	m := emptyModel()
	s := begin(t, sectors)
	failures, recoveries := 0, 0
	for range 2000 {
		if r.Intn(3) == 0 {
			check(t, "P6: Fail", s.Fail(r.Intn(40), r.Intn(16)-1), api.OK)
		}
		c, next := someCall(r), m.copied()
		want := c.onModel(next)
		switch got := c.onStore(s); got {
		case want:
			m = next
		case noRoom:
			if max(m.count(), next.count()) <= (sectors-24)/4 {
				t.Fatalf("P12: no room for %d files on %d sectors", next.count(), sectors)
			}
			checkState(t, "P7, P9: ErrSpace", s, m.state())
			m, s = emptyModel(), begin(t, sectors)
		case down:
			failures++
			s = reopen(t, s)
			if isPending(t, s) {
				recoveries++
				s = recovered(t, s, r)
				checkState(t, "P11", s, next.state())
			}
			if state(t, s) == next.state() {
				m = next
			}
		default:
			t.Fatalf("P7, P9: %s, want %s", got, want)
		}
		checkState(t, "P7, P9, P10", s, m.state())
	}
	return failures, recoveries
}

// recovered recovers a store, on a disk that may fail in that again and again.
func recovered(t *testing.T, s *concord.Store, r *rand.Rand) *concord.Store {
	t.Helper()
	for range 1000 {
		check(t, "P6: Fail", s.Fail(r.Intn(30), r.Intn(16)), api.OK)
		switch e := s.Recover(); e {
		case api.OK:
			return s
		case api.ErrDown:
			s = reopen(t, s)
		default:
			t.Fatalf("P11: Recover: %d", e)
		}
	}
	t.Fatal("P11: Recover never comes to its end")
	return nil
}
