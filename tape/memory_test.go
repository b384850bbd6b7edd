package tape

import (
	"bytes"
	"slices"
	"testing"

	"canopy/api"
)

// roomy: the bytes, with spare room behind them that has bytes, too.
func roomy(b []byte) []byte {
	room := append(bytes.Clone(b), "room"...)
	return room[:len(b)]
}

func roomyCommit(c api.Commit) api.Commit {
	var out []api.Write
	for _, w := range append(slices.Clone(c.Writes), put("room", "k", "1"), gone("room", "k")) {
		out = append(out, api.Write{Name: roomy(w.Name), Key: roomy(w.Key), Gone: w.Gone, Value: roomy(w.Value)})
	}
	return api.Commit{Turn: c.Turn, Writes: out[:len(c.Writes)]}
}

// memory: each list of bytes that can be reached, by spare room, too; and numbers of what is no list of bytes.
type memory struct {
	lists   [][]byte
	numbers []int
}

func (m *memory) bytes(l ...[]byte) {
	for _, b := range l {
		m.lists = append(m.lists, b)
		m.numbers = append(m.numbers, len(b))
	}
}

func (m *memory) commit(c api.Commit) {
	m.numbers = append(m.numbers, c.Turn, len(c.Writes))
	for _, w := range c.Writes[:cap(c.Writes)] {
		m.bytes(w.Name, w.Key, w.Value)
		if w.Gone {
			m.numbers = append(m.numbers, -1)
		}
	}
}

func (m *memory) commits(l []api.Commit) {
	m.numbers = append(m.numbers, len(l))
	for _, c := range l[:cap(l)] {
		m.commit(c)
	}
}

func (m *memory) tape(t api.Tape) {
	m.bytes(t.Data)
	m.numbers = append(m.numbers, t.Synced)
}

// text of all that is there now.
func (m *memory) text() string {
	var out []byte
	for _, b := range m.lists {
		out = append(append(out, b[:cap(b)]...), '|')
	}
	for _, n := range m.numbers {
		out = append(out, byte(n>>16), byte(n>>8), byte(n))
	}
	return string(out)
}

// spoil each list, spare room too, with bytes of its own; then each must have these still.
func (m *memory) spoil(t *testing.T) {
	t.Helper()
	for i, b := range m.lists {
		for k := range b[:cap(b)] {
			b[:cap(b)][k] = byte(i >> (8 * (k % 2)))
		}
	}
	for i, b := range m.lists {
		for k, c := range b[:cap(b)] {
			if c != byte(i>>(8*(k%2))) {
				t.Fatalf("two lists of one answer share memory")
			}
		}
	}
}

// answer: what a call answers.
type answer struct {
	bytes   []byte
	commits []api.Commit
	tape    api.Tape
}

func (a answer) memory() *memory {
	var m memory
	m.bytes(a.bytes)
	m.commits(a.commits)
	m.tape(a.tape)
	return &m
}

// spoil all that can be reached: bytes first, as they are reached by the lists of structs.
func (a answer) spoil(t *testing.T) {
	t.Helper()
	a.memory().spoil(t)
	for i, c := range a.commits[:cap(a.commits)] {
		for k := range c.Writes[:cap(c.Writes)] {
			c.Writes[:cap(c.Writes)][k] = put("spoilt", "k", "1")
		}
		a.commits[:cap(a.commits)][i] = commit(-7)
	}
}

// What is handed in stays as it is, its spare room too, and no answer shares memory with it, or with another answer.
func TestAnswersAreNewMemory(t *testing.T) {
	d := die(5)
	for range 200 {
		data, ends := laid(d.commits(1 + d.n(4)))
		tp := api.Tape{Data: roomy(data), Synced: d.n(len(data) + 1)}
		whole := api.Tape{Data: roomy(data), Synced: len(data)}
		c := roomyCommit(d.commit(1))
		b := roomy(wordedBytes(d.commit(1)))
		handed := func() string {
			var m memory
			m.tape(tp)
			m.tape(whole)
			m.commit(c)
			m.bytes(b)
			return m.text()
		}
		before := handed()
		keep := d.n(ends[0] + 1)
		calls := []func() answer{
			func() answer { Check(c); return answer{} },
			func() answer { out, _ := Encode(c); return answer{bytes: out} },
			func() answer { out, _ := Decode(b); return answer{commits: []api.Commit{out}} },
			func() answer { out, _ := Append(tp, c); return answer{tape: out} },
			func() answer { out, _ := Sync(tp); return answer{tape: out} },
			func() answer { out, _ := Sync(whole); return answer{tape: out} },
			func() answer { out, _ := Crash(tp, keep); return answer{tape: out} },
			func() answer { out, _ := Crash(whole, keep); return answer{tape: out} },
			func() answer { l, out, _ := Recover(tp); return answer{commits: l, tape: out} },
		}
		for i, call := range calls {
			first, second := call(), call()
			kept := second.memory().text()
			first.spoil(t)
			if handed() != before {
				t.Fatalf("call %d: what was handed in has changed", i)
			}
			if second.memory().text() != kept {
				t.Fatalf("call %d: two answers share memory", i)
			}
		}
	}
}
