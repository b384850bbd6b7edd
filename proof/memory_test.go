package proof

import (
	"bytes"
	"slices"
	"testing"

	"canopy/api"
)

// roomy: the bytes, with spare room behind them that has bytes, too.
func roomy(b []byte) []byte {
	room := append(bytes.Clone(b), "room"...)
	return room[:len(b)]
}

func roomyPair(p api.Pair) api.Pair {
	return api.Pair{Key: roomy(p.Key), Value: roomy(p.Value)}
}

// roomyPairs: pairs with spare room behind the list and behind each of their lists.
func roomyPairs(l []api.Pair) []api.Pair {
	var out []api.Pair
	for _, p := range append(slices.Clone(l), of("room", "1", "room", "2")...) {
		out = append(out, roomyPair(p))
	}
	return out[:len(l)]
}

func roomyProof(p api.Proof) api.Proof {
	var steps []api.Step
	for _, s := range append(slices.Clone(p.Steps), api.Step{Bit: 1000, Right: true, Other: []byte("room")}) {
		s.Other = roomy(s.Other)
		steps = append(steps, s)
	}
	return api.Proof{Empty: p.Empty, Steps: steps[:len(p.Steps)], Pair: roomyPair(p.Pair)}
}

// held: all bytes of a list, those of its spare room, too, behind its length.
func held(b []byte) []byte { return append([]byte{byte(len(b)), '|'}, b[:cap(b)]...) }

func heldByPairs(l []api.Pair) []byte {
	var out []byte
	for _, p := range l[:cap(l)] {
		out = append(append(out, held(p.Key)...), held(p.Value)...)
	}
	return out
}

func heldByProof(p api.Proof) []byte {
	out := append(held(p.Pair.Key), held(p.Pair.Value)...)
	for _, s := range p.Steps[:cap(p.Steps)] {
		out = append(append(out, byte(s.Bit), byte(s.Bit>>8), byte(sideOf(s.Right))), held(s.Other)...)
	}
	return append(out, byte(sideOf(p.Empty)), byte(len(p.Steps)))
}

// spoil each list, spare room too, with another byte; then each must have its own still.
func spoil(t *testing.T, lists [][]byte) {
	t.Helper()
	for i, b := range lists {
		for k := range b[:cap(b)] {
			b[:cap(b)][k] = byte(i)
		}
	}
	for i, b := range lists {
		for _, c := range b[:cap(b)] {
			if c != byte(i) {
				t.Fatalf("two lists of one answer share memory")
			}
		}
	}
}

func spoilProof(t *testing.T, p api.Proof) {
	t.Helper()
	lists := [][]byte{p.Pair.Key, p.Pair.Value}
	for _, s := range p.Steps[:cap(p.Steps)] {
		lists = append(lists, s.Other)
	}
	spoil(t, lists)
	for i := range p.Steps[:cap(p.Steps)] {
		p.Steps[:cap(p.Steps)][i] = api.Step{Bit: -7}
	}
}

// What is handed in stays as it is, its spare room too, and no answer shares memory with it, or with another answer.
func TestAnswersAreNewMemory(t *testing.T) {
	d := die(8)
	for range 300 {
		plain, plainKey := d.drawn(20)
		l, key := roomyPairs(plain), roomy(plainKey)
		root := roomy(rootOfTree(t, plain))
		handed := roomyProof(mustProve(t, plain, plainKey))
		before := [][]byte{heldByPairs(l), held(key), held(root), heldByProof(handed)}
		unchanged := func(what string) {
			t.Helper()
			now := [][]byte{heldByPairs(l), held(key), held(root), heldByProof(handed)}
			if !slices.EqualFunc(now, before, bytes.Equal) {
				t.Fatalf("%s: what was handed in has changed", what)
			}
		}
		first, second := mustProve(t, l, key), mustProve(t, l, key)
		kept := heldByProof(second)
		spoilProof(t, first)
		unchanged("Prove")
		if !bytes.Equal(heldByProof(second), kept) {
			t.Fatalf("two proofs share memory")
		}
		if e := Check(key, handed); e != api.OK {
			t.Fatal(e)
		}
		unchanged("Check")
		one, e := Verify(root, key, handed)
		two, _ := Verify(root, key, handed)
		if e != api.OK {
			t.Fatal(e)
		}
		keptValue := held(two.Value)
		spoil(t, [][]byte{one.Value})
		unchanged("Verify")
		if !bytes.Equal(held(two.Value), keptValue) {
			t.Fatalf("two findings share memory")
		}
	}
}
