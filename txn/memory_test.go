package txn

import (
	"bytes"
	"slices"
	"testing"

	"canopy/api"
)

// roomy: the bytes, with spare room behind them that has bytes, too.
func roomy(b []byte) []byte {
	room := append(bytes.Clone(b), "room"...)
	return room[:len(b)]
}

func roomyRead(r api.Read) api.Read {
	return api.Read{Name: roomy(r.Name), Key: roomy(r.Key), Wide: r.Wide, Last: roomy(r.Last)}
}

func roomyWrite(w api.Write) api.Write {
	return api.Write{Name: roomy(w.Name), Key: roomy(w.Key), Gone: w.Gone, Value: roomy(w.Value)}
}

// roomyList: with two elements more as spare room.
func roomyList[T any](l []T, copied func(T) T, room T) []T {
	var out []T
	for _, x := range append(slices.Clone(l), room, room) {
		out = append(out, copied(x))
	}
	return out[:len(l)]
}

func roomyWrites(l []api.Write) []api.Write { return roomyList(l, roomyWrite, put("room", "k", "1")) }

func roomyTxn(x api.Txn) api.Txn {
	return api.Txn{Start: x.Start, Reads: roomyList(x.Reads, roomyRead, one("room", "k")), Writes: roomyWrites(x.Writes)}
}

func roomyPair(p api.Pair) api.Pair { return api.Pair{Key: roomy(p.Key), Value: roomy(p.Value)} }

func roomyTenant(t api.Tenant) api.Tenant {
	return api.Tenant{Name: roomy(t.Name), Pairs: roomyList(t.Pairs, roomyPair, of("room", "1")[0])}
}

func roomyCommit(c api.Commit) api.Commit {
	return api.Commit{Turn: c.Turn, Writes: roomyWrites(c.Writes)}
}

// memory: each list of bytes that can be reached, by spare room, too; and numbers of what is no list of bytes.
type memory struct {
	lists   [][]byte
	numbers []int
}

func (m *memory) bytes(l ...[]byte) {
	for _, b := range l {
		m.lists = append(m.lists, b)
		m.numbers = append(m.numbers, len(b))
	}
}

func (m *memory) flag(b bool) {
	if b {
		m.numbers = append(m.numbers, -1)
	}
}

func (m *memory) reads(l []api.Read) {
	m.numbers = append(m.numbers, len(l))
	for _, r := range l[:cap(l)] {
		m.bytes(r.Name, r.Key, r.Last)
		m.flag(r.Wide)
	}
}

func (m *memory) writes(l []api.Write) {
	m.numbers = append(m.numbers, len(l))
	for _, w := range l[:cap(l)] {
		m.bytes(w.Name, w.Key, w.Value)
		m.flag(w.Gone)
	}
}

func (m *memory) txn(x api.Txn) {
	m.numbers = append(m.numbers, x.Start)
	m.reads(x.Reads)
	m.writes(x.Writes)
}

func (m *memory) pairs(l []api.Pair) {
	m.numbers = append(m.numbers, len(l))
	for _, p := range l[:cap(l)] {
		m.bytes(p.Key, p.Value)
	}
}

func (m *memory) tenants(l []api.Tenant) {
	m.numbers = append(m.numbers, len(l))
	for _, t := range l[:cap(l)] {
		m.bytes(t.Name)
		m.pairs(t.Pairs)
	}
}

func (m *memory) commits(l []api.Commit) {
	m.numbers = append(m.numbers, len(l))
	for _, c := range l[:cap(l)] {
		m.numbers = append(m.numbers, c.Turn)
		m.writes(c.Writes)
	}
}

// text of all that is there now.
func (m *memory) text() string {
	var out []byte
	for _, b := range m.lists {
		out = append(append(out, b[:cap(b)]...), '|')
	}
	for _, n := range m.numbers {
		out = append(out, byte(n>>16), byte(n>>8), byte(n))
	}
	return string(out)
}

// spoil each list, spare room too, with bytes of its own; then each must have these still.
func (m *memory) spoil(t *testing.T) {
	t.Helper()
	for i, b := range m.lists {
		for k := range b[:cap(b)] {
			b[:cap(b)][k] = byte(i >> (8 * (k % 2)))
		}
	}
	for i, b := range m.lists {
		for k, c := range b[:cap(b)] {
			if c != byte(i>>(8*(k%2))) {
				t.Fatalf("two lists of one answer share memory")
			}
		}
	}
}

// answer: what a call answers.
type answer struct {
	txn   api.Txn
	pairs []api.Pair
	bytes []byte
}

func (a answer) memory() *memory {
	var m memory
	m.txn(a.txn)
	m.pairs(a.pairs)
	m.bytes(a.bytes)
	return &m
}

// spoil all that can be reached: bytes first, as they are reached by the lists of structs.
func (a answer) spoil(t *testing.T) {
	t.Helper()
	a.memory().spoil(t)
	fill(a.txn.Reads, one("spoilt", "k"))
	fill(a.txn.Writes, gone("spoilt", "k"))
	fill(a.pairs, of("spoilt", "1")[0])
}

func fill[T any](l []T, with T) {
	for i := range l[:cap(l)] {
		l[:cap(l)][i] = with
	}
}

// What is handed in stays as it is, its spare room too, and no answer shares memory with it, or with another answer.
func TestAnswersAreNewMemory(t *testing.T) {
	d := die(88)
	for range 400 {
		l := roomyList(d.grove().tenants(), roomyTenant, tenant("room", "k", "1"))
		x := roomyTxn(d.txn(t, map[api.Errno]int{}))
		r, w := roomyRead(d.read()), roomyWrite(d.write())
		name, key, to := roomy(d.text()), roomy(d.text()), roomy(d.text())
		again, over := r, w
		if len(x.Reads) > 0 {
			again = x.Reads[d.n(len(x.Reads))]
		}
		if len(x.Writes) > 0 {
			over = x.Writes[d.n(len(x.Writes))]
		}
		cs := roomyList(commits(commit(3, d.write(), d.write()), commit(4, d.write())), roomyCommit, commit(77, put("room", "k", "1")))
		handed := func() string {
			var m memory
			m.tenants(l)
			m.txn(x)
			m.reads(reads(r))
			m.writes(writes(w))
			m.bytes(name, key, to)
			m.commits(cs)
			return m.text()
		}
		before := handed()
		calls := []func() answer{
			func() answer { Check(x); Clash(x, cs); return answer{} },
			func() answer { out, _ := Note(x, r); return answer{txn: out} },
			func() answer { out, _ := Note(x, again); return answer{txn: out} },
			func() answer { out, _ := Write(x, w); return answer{txn: out} },
			func() answer { out, _ := Write(x, over); return answer{txn: out} },
			func() answer { out, _, _ := Look(l, x, name, key); return answer{bytes: out.Value} },
			func() answer { out, _, _ := Look(l, x, over.Name, over.Key); return answer{bytes: out.Value} },
			func() answer { out, _ := Scan(l, x, name, key, to); return answer{pairs: out} },
			func() answer { out, _ := Scan(l, x, over.Name, []byte{0}, []byte{255, 255}); return answer{pairs: out} },
		}
		for i, call := range calls {
			first, second := call(), call()
			kept := second.memory().text()
			first.spoil(t)
			if handed() != before {
				t.Fatalf("call %d: what was handed in has changed", i)
			}
			if second.memory().text() != kept {
				t.Fatalf("call %d: two answers share memory", i)
			}
		}
	}
}

// Lists that are handed in may be pieces of each other.
func TestOwnPieces(t *testing.T) {
	text := []byte("abcdef")
	r := api.Read{Name: text[:2], Key: text[1:3], Wide: true, Last: text}
	w := api.Write{Name: text[:2], Key: text[1:4], Value: text}
	x, e := Note(api.Txn{}, r)
	if e != api.OK {
		t.Fatal(e)
	}
	if x, e = Write(x, w); e != api.OK {
		t.Fatal(e)
	}
	want := api.Txn{Reads: reads(wide("ab", "bc", "abcdef")), Writes: writes(put("ab", "bcd", "abcdef"))}
	if !sameTxn(x, want) {
		t.Errorf("%v, want %v", x, want)
	}
	answer{txn: x}.spoil(t)
	if string(text) != "abcdef" {
		t.Errorf("what was handed in has changed: %s", text)
	}
}
