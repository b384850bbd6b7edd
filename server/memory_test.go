package server

import (
	"bytes"
	"math"
	"testing"

	"canopy/api"
	"canopy/lines"
)

// roomyActs: acts with spare room behind them, and behind their Data, that has something, too.
func roomyActs(l []api.Act) []api.Act {
	out := make([]api.Act, 0, len(l)+2)
	for _, a := range l {
		if a.Kind == api.Ask {
			a.Data = append(bytes.Clone(a.Data), "room"...)[:len(a.Data)]
		}
		out = append(out, a)
	}
	return append(out, api.Act{Kind: api.Sync}, api.Act{Kind: 77})[:len(l)]
}

// memory: each list of bytes that can be reached, by spare room, too, and how long lists are.
type memory struct {
	lists   [][]byte
	numbers []int
}

func (m *memory) bytes(l ...[]byte) {
	for _, b := range l {
		m.lists = append(m.lists, b)
		m.numbers = append(m.numbers, len(b))
	}
}

func (m *memory) acts(l []api.Act) {
	for _, a := range l[:cap(l)] {
		m.numbers = append(m.numbers, a.Kind, a.Session, a.Keep)
		m.bytes(a.Data)
	}
}

func (m *memory) pairs(l []api.Pair) {
	m.numbers = append(m.numbers, len(l))
	for _, p := range l[:cap(l)] {
		m.bytes(p.Key, p.Value)
	}
}

func (m *memory) proof(p api.Proof) {
	m.numbers = append(m.numbers, len(p.Steps))
	for _, s := range p.Steps[:cap(p.Steps)] {
		m.numbers = append(m.numbers, s.Bit)
		m.bytes(s.Other)
	}
	m.bytes(p.Pair.Key, p.Pair.Value)
}

func (m *memory) outcome(o api.Outcome) {
	m.numbers = append(m.numbers, o.Turn, o.Pending, len(o.Forest), len(o.Replies))
	for _, t := range o.Forest[:cap(o.Forest)] {
		m.bytes(t.Name)
		m.pairs(t.Pairs)
	}
	for _, r := range o.Replies[:cap(o.Replies)] {
		m.numbers = append(m.numbers, r.Session, int(r.Code), r.Turn)
		m.bytes(r.Value, r.Root)
		m.pairs(r.Pairs)
		m.proof(r.Outer)
		m.proof(r.Inner)
	}
}

// text of all that is there now.
func (m *memory) text() string {
	var out []byte
	for _, b := range m.lists {
		out = append(append(out, b[:cap(b)]...), '|')
	}
	for _, n := range m.numbers {
		out = append(out, byte(n>>16), byte(n>>8), byte(n))
	}
	return string(out)
}

func actsText(l []api.Act) string {
	var m memory
	m.acts(l)
	return m.text()
}

func outcomeText(o api.Outcome) string {
	var m memory
	m.outcome(o)
	return m.text()
}

// spoil each list of bytes of an outcome, spare room too, with bytes of its own; then each must have these still. Then the lists of structs.
func spoil(t *testing.T, o api.Outcome) {
	t.Helper()
	var m memory
	m.outcome(o)
	mark := func(i, k int) byte { return byte(i >> (8 * (k % 3))) }
	for i, b := range m.lists {
		for k := range b[:cap(b)] {
			b[:cap(b)][k] = mark(i, k)
		}
	}
	for i, b := range m.lists {
		for k, c := range b[:cap(b)] {
			if c != mark(i, k) {
				t.Fatalf("two lists of one outcome share memory")
			}
		}
	}
	for _, one := range o.Forest[:cap(o.Forest)] {
		clear(one.Pairs[:cap(one.Pairs)])
	}
	for _, r := range o.Replies[:cap(o.Replies)] {
		clear(r.Pairs[:cap(r.Pairs)])
		clear(r.Outer.Steps[:cap(r.Outer.Steps)])
		clear(r.Inner.Steps[:cap(r.Inner.Steps)])
	}
	clear(o.Forest[:cap(o.Forest)])
	clear(o.Replies[:cap(o.Replies)])
}

// What is handed in stays as it is, its spare room too, and no outcome shares memory with it, or with another one.
func TestOutcomesAreNewMemory(t *testing.T) {
	d := die(3)
	for i := range 60 {
		deeds, _, _ := d.script(lands[i%2])
		l := roomyActs(actsOf(deeds))
		before := actsText(l)
		first, _ := Run(l)
		second, _ := Run(l)
		kept := outcomeText(second)
		spoil(t, first)
		if actsText(l) != before {
			t.Fatal("what was handed in has changed")
		}
		if outcomeText(second) != kept {
			t.Fatal("two outcomes share memory")
		}
		clear(l[:cap(l)])
		if outcomeText(second) != kept {
			t.Fatal("an outcome shares memory with what was handed in")
		}
	}
}

// One list may be the Data of many acts.
func TestSharedData(t *testing.T) {
	data := []byte{api.Put, 1, 'a', 1, 'k', 1, 7, api.Begin, api.Commits}
	ask := func(from, to int) api.Act { return api.Act{Kind: api.Ask, Data: data[from:to]} }
	o, e := Run([]api.Act{ask(7, 8), ask(0, 7), ask(0, 7), ask(8, 9), {Kind: api.Sync}})
	if e != api.OK || len(o.Replies) != 4 || showEnd(o) != "up 1 0 a:k=\a" {
		t.Errorf("%v %d", o, e)
	}
	spoil(t, o)
	if !bytes.Equal(data, []byte{api.Put, 1, 'a', 1, 'k', 1, 7, api.Begin, api.Commits}) {
		t.Errorf("what was handed in has changed: %v", data)
	}
}

// Whatever the numbers and bytes are, a call ends, and refuses just what chapter 10 refuses.
func TestAnything(t *testing.T) {
	numbers := []int{math.MinInt, -1, 0, 0, 0, 1, 2, 3, 4, 5, 7, 8, 100, api.MaxBytes, api.MaxBytes + 1, math.MaxInt}
	d := die(99)
	ended := 0
	for range 20000 {
		l := make([]api.Act, d.n(12))
		want := api.OK
		for i := range l {
			l[i] = api.Act{Kind: 1 + d.n(4)}
			switch d.n(8) {
			case 0:
				l[i].Kind, l[i].Session = numbers[d.n(len(numbers))], numbers[d.n(len(numbers))]
			case 1:
				l[i].Keep = numbers[d.n(len(numbers))]
			}
			if l[i].Kind == api.Ask {
				l[i].Data = d.bytes()
			}
			if want == api.OK {
				want = lines.Check(l[i])
			}
		}
		o, e := Run(l)
		if e != want {
			t.Fatalf("%v: %d, want %d", l, e, want)
		}
		if e == api.OK {
			ended++
		} else if showEnd(o) != "down 0 0" || len(o.Replies) != 0 {
			t.Fatalf("%v with %d", o, e)
		}
	}
	if ended < 1000 {
		t.Errorf("only %d scripts were done", ended)
	}
}

// bytes that begin like a request.
func (d *die) bytes() []byte {
	b := make([]byte, d.n(9))
	for i := range b {
		b[i] = byte(d.n([]int{10, 3, 256}[d.n(3)]))
	}
	return b
}
