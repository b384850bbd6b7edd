package forest

import (
	"bytes"
	"slices"
	"testing"

	"canopy/api"
)

// roomy: the bytes, with spare room behind them that has bytes, too.
func roomy(b []byte) []byte {
	room := append(bytes.Clone(b), "room"...)
	return room[:len(b)]
}

func roomyPair(p api.Pair) api.Pair { return api.Pair{Key: roomy(p.Key), Value: roomy(p.Value)} }

// roomyPairs: pairs with spare room behind the list and behind each of their lists.
func roomyPairs(l []api.Pair) []api.Pair {
	var out []api.Pair
	for _, p := range append(slices.Clone(l), of("room", "1", "room", "2")...) {
		out = append(out, roomyPair(p))
	}
	return out[:len(l)]
}

func roomyTenants(l []api.Tenant) []api.Tenant {
	var out []api.Tenant
	for _, t := range append(slices.Clone(l), tenant("room", "k", "1"), tenant("room", "k", "2")) {
		out = append(out, api.Tenant{Name: roomy(t.Name), Pairs: roomyPairs(t.Pairs)})
	}
	return out[:len(l)]
}

func roomyWrites(ws []api.Write) []api.Write {
	var out []api.Write
	for _, w := range append(slices.Clone(ws), put("room", "k", "1"), gone("room", "k")) {
		out = append(out, api.Write{Name: roomy(w.Name), Key: roomy(w.Key), Gone: w.Gone, Value: roomy(w.Value)})
	}
	return out[:len(ws)]
}

func roomyProof(p api.Proof) api.Proof {
	var steps []api.Step
	for _, s := range append(slices.Clone(p.Steps), api.Step{Bit: 1000, Right: true, Other: []byte("room")}) {
		s.Other = roomy(s.Other)
		steps = append(steps, s)
	}
	return api.Proof{Empty: p.Empty, Steps: steps[:len(p.Steps)], Pair: roomyPair(p.Pair)}
}

// memory: each list of bytes that can be reached, by spare room, too; and numbers of what is no list of bytes.
type memory struct {
	lists   [][]byte
	numbers []int
}

func (m *memory) bytes(l ...[]byte) {
	for _, b := range l {
		m.lists = append(m.lists, b)
		m.numbers = append(m.numbers, len(b))
	}
}

func (m *memory) flag(b bool) {
	n := 0
	if b {
		n = 1
	}
	m.numbers = append(m.numbers, n)
}

func (m *memory) pairs(l []api.Pair) {
	m.numbers = append(m.numbers, len(l))
	for _, p := range l[:cap(l)] {
		m.bytes(p.Key, p.Value)
	}
}

func (m *memory) tenants(l []api.Tenant) {
	m.numbers = append(m.numbers, len(l))
	for _, t := range l[:cap(l)] {
		m.bytes(t.Name)
		m.pairs(t.Pairs)
	}
}

func (m *memory) writes(l []api.Write) {
	m.numbers = append(m.numbers, len(l))
	for _, w := range l[:cap(l)] {
		m.bytes(w.Name, w.Key, w.Value)
		m.flag(w.Gone)
	}
}

func (m *memory) proof(p api.Proof) {
	m.flag(p.Empty)
	m.numbers = append(m.numbers, len(p.Steps))
	for _, s := range p.Steps[:cap(p.Steps)] {
		m.numbers = append(m.numbers, s.Bit)
		m.flag(s.Right)
		m.bytes(s.Other)
	}
	m.bytes(p.Pair.Key, p.Pair.Value)
}

// text of all that is there now.
func (m *memory) text() string {
	var out []byte
	for _, b := range m.lists {
		out = append(append(out, b[:cap(b)]...), '|')
	}
	for _, n := range m.numbers {
		out = append(out, byte(n>>8), byte(n))
	}
	return string(out)
}

// spoil each list, spare room too, with bytes of its own; then each must have these still.
func (m *memory) spoil(t *testing.T) {
	t.Helper()
	for i, b := range m.lists {
		for k := range b[:cap(b)] {
			b[:cap(b)][k] = byte(i >> (8 * (k % 2)))
		}
	}
	for i, b := range m.lists {
		for k, c := range b[:cap(b)] {
			if c != byte(i>>(8*(k%2))) {
				t.Fatalf("two lists of one answer share memory")
			}
		}
	}
}

// answer: what a call answers.
type answer struct {
	pairs  []api.Pair
	forest []api.Tenant
	proofs [2]api.Proof
	bytes  []byte
}

func (a answer) memory() *memory {
	var m memory
	m.bytes(a.bytes)
	m.pairs(a.pairs)
	m.tenants(a.forest)
	for _, p := range a.proofs {
		m.proof(p)
	}
	return &m
}

// spoil all that can be reached: bytes first, as they are reached by the lists of structs.
func (a answer) spoil(t *testing.T) {
	t.Helper()
	a.memory().spoil(t)
	fill(a.pairs, of("spoilt", "1")[0])
	for _, one := range a.forest[:cap(a.forest)] {
		fill(one.Pairs, of("spoilt", "2")[0])
	}
	fill(a.forest, tenant("spoilt"))
	for _, p := range a.proofs {
		fill(p.Steps, api.Step{Bit: -7})
	}
}

func fill[T any](l []T, with T) {
	for i := range l[:cap(l)] {
		l[:cap(l)][i] = with
	}
}

// What is handed in stays as it is, its spare room too, and no answer shares memory with it, or with another answer.
func TestAnswersAreNewMemory(t *testing.T) {
	d := die(7)
	for range 300 {
		plain, plainName, plainKey := d.drawn()
		plainOuter, plainInner := mustProve(t, plain, plainName, plainKey)
		var drawnWrites []api.Write
		for range d.n(5) {
			drawnWrites = append(drawnWrites, d.write())
		}
		l, ws, name, key := roomyTenants(plain), roomyWrites(drawnWrites), roomy(plainName), roomy(plainKey)
		root, to, outer, inner := roomy(mustRoot(t, plain)), roomy([]byte{255, 255}), roomyProof(plainOuter), roomyProof(plainInner)
		handed := func() string {
			var m memory
			m.tenants(l)
			m.writes(ws)
			m.bytes(name, key, root, to)
			m.proof(outer)
			m.proof(inner)
			return m.text()
		}
		before := handed()
		calls := []func() answer{
			func() answer { out, _ := Apply(l, ws); return answer{forest: out} },
			func() answer { out, _ := Apply(l, nil); return answer{forest: out} },
			func() answer { out, _ := Get(l, name, key); return answer{bytes: out.Value} },
			func() answer { out, _ := Range(l, name, key, to); return answer{pairs: out} },
			func() answer { out, _ := Root(l); return answer{bytes: out} },
			func() answer { p, q, _ := Prove(l, name, key); return answer{proofs: [2]api.Proof{p, q}} },
			func() answer { out, _ := Verify(root, name, key, outer, inner); return answer{bytes: out.Value} },
			func() answer { Check(l); Name(name); return answer{} },
		}
		for i, call := range calls {
			first, second := call(), call()
			kept := second.memory().text()
			first.spoil(t)
			if handed() != before {
				t.Fatalf("call %d: what was handed in has changed", i)
			}
			if second.memory().text() != kept {
				t.Fatalf("call %d: two answers share memory", i)
			}
		}
	}
}

// Lists that are handed in may be pieces of each other.
func TestApplyOfOwnPieces(t *testing.T) {
	l := tenants(tenant("ab", "cd", "12"), tenant("b", "k", "2"))
	w := api.Write{Name: l[0].Name[:1], Key: l[0].Pairs[0].Key[:1], Value: l[0].Name}
	got, e := Apply(l, writes(w, api.Write{Name: l[0].Name, Key: l[0].Pairs[0].Key, Gone: true}))
	wantTenants(t, "Apply of pieces", got, e, tenants(tenant("a", "c", "ab"), tenant("b", "k", "2")))
	answer{forest: got}.spoil(t)
	wantTenants(t, "the forest behind that", l, api.OK, tenants(tenant("ab", "cd", "12"), tenant("b", "k", "2")))
}
