package history

import (
	"bytes"
	"slices"
	"testing"

	"canopy/api"
)

// roomy: the bytes, with spare room behind them that has bytes, too.
func roomy(b []byte) []byte {
	room := append(bytes.Clone(b), "room"...)
	return room[:len(b)]
}

func roomyWrites(l []api.Write) []api.Write {
	var out []api.Write
	for _, w := range append(slices.Clone(l), put("room", "k", "1"), gone("room", "k")) {
		out = append(out, api.Write{Name: roomy(w.Name), Key: roomy(w.Key), Gone: w.Gone, Value: roomy(w.Value)})
	}
	return out[:len(l)]
}

func roomyCommits(l []api.Commit) []api.Commit {
	var out []api.Commit
	for _, c := range append(slices.Clone(l), commit(77, put("room", "k", "1"))) {
		out = append(out, api.Commit{Turn: c.Turn, Writes: roomyWrites(c.Writes)})
	}
	return out[:len(l)]
}

// memory: each list of bytes that can be reached, by spare room, too; and numbers of what is no list of bytes.
type memory struct {
	lists   [][]byte
	numbers []int
}

func (m *memory) bytes(l ...[]byte) {
	for _, b := range l {
		m.lists = append(m.lists, b)
		m.numbers = append(m.numbers, len(b))
	}
}

func (m *memory) writes(l []api.Write) {
	m.numbers = append(m.numbers, len(l))
	for _, w := range l[:cap(l)] {
		m.bytes(w.Name, w.Key, w.Value)
		if w.Gone {
			m.numbers = append(m.numbers, -1)
		}
	}
}

func (m *memory) commits(l []api.Commit) {
	m.numbers = append(m.numbers, len(l))
	for _, c := range l[:cap(l)] {
		m.numbers = append(m.numbers, c.Turn)
		m.writes(c.Writes)
	}
}

func (m *memory) tenants(l []api.Tenant) {
	m.numbers = append(m.numbers, len(l))
	for _, t := range l[:cap(l)] {
		m.bytes(t.Name)
		m.numbers = append(m.numbers, len(t.Pairs))
		for _, p := range t.Pairs[:cap(t.Pairs)] {
			m.bytes(p.Key, p.Value)
		}
	}
}

// text of all that is there now.
func (m *memory) text() string {
	var out []byte
	for _, b := range m.lists {
		out = append(append(out, b[:cap(b)]...), '|')
	}
	for _, n := range m.numbers {
		out = append(out, byte(n>>16), byte(n>>8), byte(n))
	}
	return string(out)
}

// spoil each list, spare room too, with bytes of its own; then each must have these still.
func (m *memory) spoil(t *testing.T) {
	t.Helper()
	for i, b := range m.lists {
		for k := range b[:cap(b)] {
			b[:cap(b)][k] = byte(i >> (8 * (k % 2)))
		}
	}
	for i, b := range m.lists {
		for k, c := range b[:cap(b)] {
			if c != byte(i>>(8*(k%2))) {
				t.Fatalf("two lists of one answer share memory")
			}
		}
	}
}

// answer: what a call answers.
type answer struct {
	bytes   []byte
	tenants []api.Tenant
	writes  []api.Write
}

func (a answer) memory() *memory {
	var m memory
	m.bytes(a.bytes)
	m.tenants(a.tenants)
	m.writes(a.writes)
	return &m
}

// spoil all that can be reached: bytes first, as they are reached by the lists of structs.
func (a answer) spoil(t *testing.T) {
	t.Helper()
	a.memory().spoil(t)
	for i, one := range a.tenants[:cap(a.tenants)] {
		for k := range one.Pairs[:cap(one.Pairs)] {
			one.Pairs[:cap(one.Pairs)][k] = api.Pair{Key: []byte("spoilt")}
		}
		a.tenants[:cap(a.tenants)][i] = tenant("spoilt")
	}
	for i := range a.writes[:cap(a.writes)] {
		a.writes[:cap(a.writes)][i] = put("spoilt", "k", "1")
	}
}

// What is handed in stays as it is, its spare room too, and no answer shares memory with it, or with another answer.
func TestAnswersAreNewMemory(t *testing.T) {
	d := die(5)
	for range 200 {
		l := roomyCommits(d.history())
		handed := func() string {
			var m memory
			m.commits(l)
			return m.text()
		}
		before := handed()
		x, y := d.n(len(l)+1), d.n(len(l)+1)
		calls := []func() answer{
			func() answer { Check(l); return answer{} },
			func() answer { out, _ := Fold(l, x); return answer{tenants: out} },
			func() answer { out, _ := Fold(l, len(l)); return answer{tenants: out} },
			func() answer { out, _ := Root(l, x); return answer{bytes: out} },
			func() answer { out, _ := Changes(l, x, y); return answer{writes: out} },
			func() answer { out, _ := Changes(l, 0, len(l)); return answer{writes: out} },
			func() answer { out, _ := Changes(l, len(l), 0); return answer{writes: out} },
		}
		for i, call := range calls {
			first, second := call(), call()
			kept := second.memory().text()
			first.spoil(t)
			if handed() != before {
				t.Fatalf("call %d: what was handed in has changed", i)
			}
			if second.memory().text() != kept {
				t.Fatalf("call %d: two answers share memory", i)
			}
		}
	}
}
