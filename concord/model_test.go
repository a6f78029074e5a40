package concord_test

import (
	"fmt"
	"maps"
	"math/rand"
	"slices"
	"strings"
	"testing"

	"concord/api"
	"concord/concord"
)

// model is what the sides should hold.
type model [2]map[string]string

func (m model) state() string {
	var all strings.Builder
	for side, held := range m {
		for _, path := range slices.Sorted(maps.Keys(held)) {
			fmt.Fprintf(&all, "%d %s %q\n", side, path, held[path])
		}
	}
	return all.String()
}

func (m model) put(side int, path string, content string) api.Errno {
	paths := map[string]bool{path: true}
	for _, held := range m {
		for p := range held {
			paths[p] = true
		}
	}
	if len(paths) > api.MaxPaths {
		return api.ErrMany
	}
	m[side][path] = content
	return api.OK
}

func (m model) remove(side int, path string) api.Errno {
	if _, found := m[side][path]; !found {
		return api.ErrNone
	}
	delete(m[side], path)
	return api.OK
}

func (m model) copied() model { return model{maps.Clone(m[0]), maps.Clone(m[1])} }

// call is one call, which can be made on a model and on stores.
type call struct {
	side    int
	path    string
	content string
	removes bool
}

func (c call) onModel(m model) api.Errno {
	if c.removes {
		return m.remove(c.side, c.path)
	}
	return m.put(c.side, c.path, c.content)
}

func (c call) onStore(s *concord.Store) api.Errno {
	if c.removes {
		return s.Remove(c.side, c.path)
	}
	return s.Put(c.side, c.path, c.content)
}

func someCall(r *rand.Rand) call {
	path := []string{"a", "b", "c", "dd", "ddd", "abcdefgh", "zzzzzzzz", "y", "yy"}[r.Intn(9)]
	content := make([]byte, []int{0, 1, 40, 53, 54, 95, 96}[r.Intn(7)])
	for i := range content {
		content[i] = byte(r.Intn(256))
	}
	return call{side: r.Intn(2), path: path, content: string(content), removes: r.Intn(3) == 0}
}

// Many calls are made on a model, on a store, on one like it, and on one that is opened anew for each call.
func TestCallsAgainstAModel(t *testing.T) {
	for seed := range int64(20) {
		r := rand.New(rand.NewSource(seed))
		sectors := 80 + r.Intn(321)
		m := model{{}, {}}
		s, like, bystander := begin(t, sectors), begin(t, sectors), begin(t, sectors)
		put(t, bystander, api.Left, "a", "x")
		apart := bystander.Bytes()
		for k := range 200 {
			c, was := someCall(r), s.Acts()
			want := c.onModel(m)
			anew := reopen(t, s)
			check(t, "P7", c.onStore(s), want)
			check(t, "P2", c.onStore(like), want)
			check(t, "P2: opened anew", c.onStore(anew), want)
			checkState(t, fmt.Sprintf("P7: seed %d, call %d", seed, k), s, m.state())
			if s.Bytes() != like.Bytes() || s.Acts() != like.Acts() {
				t.Fatal("P2: the same calls make another disk")
			}
			if s.Bytes() != anew.Bytes() || s.Acts()-was != anew.Acts() {
				t.Fatal("P2: a store that was opened goes on otherwise")
			}
		}
		if bystander.Bytes() != apart {
			t.Error("P2: one store has changed another")
		}
	}
}

// The disk fails again and again, and each time a store is opened on its bytes.
func TestFailuresAgainstAModel(t *testing.T) {
	r := rand.New(rand.NewSource(1))
	m := model{{}, {}}
	s := begin(t, 100)
	failures := 0
	for range 3000 {
		if r.Intn(3) == 0 {
			check(t, "P6: Fail", s.Fail(r.Intn(12), r.Intn(16)-1), api.OK)
		}
		c, next := someCall(r), m.copied()
		want := c.onModel(next)
		switch e := c.onStore(s); e {
		case want:
			m = next
		case api.ErrDown:
			failures++
			s = reopen(t, s)
			if state(t, s) == next.state() {
				m = next
			}
		default:
			t.Fatalf("P7: %d, want %d", e, want)
		}
		checkState(t, "P7", s, m.state())
	}
	if failures < 100 {
		t.Errorf("only %d failures", failures)
	}
}
