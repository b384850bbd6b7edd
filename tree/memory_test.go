package tree

import (
	"bytes"
	"slices"
	"testing"

	"canopy/api"
)

// roomy: the bytes, with spare room behind them that has bytes, too.
func roomy(b []byte) []byte {
	room := append(bytes.Clone(b), "room"...)
	return room[:len(b)]
}

// roomyPairs: pairs with spare room behind the list and behind each of their lists.
func roomyPairs(l []api.Pair) []api.Pair {
	var out []api.Pair
	for _, p := range append(slices.Clone(l), of("room", "1", "room", "2")...) {
		out = append(out, api.Pair{Key: roomy(p.Key), Value: roomy(p.Value)})
	}
	return out[:len(l)]
}

// whole: all bytes that can be reached, those of spare room, too.
func whole(l []api.Pair) []byte {
	var out []byte
	for _, p := range l[:cap(l)] {
		out = append(out, p.Key[:cap(p.Key)]...)
		out = append(append(out, '|'), p.Value[:cap(p.Value)]...)
		out = append(out, byte(len(p.Key)), byte(len(p.Value)))
	}
	return out
}

func fill(b []byte, with byte) {
	b = b[:cap(b)]
	for i := range b {
		b[i] = with
	}
}

// spoil each list of an answer, spare room too, with another byte; then each must have its own still.
func spoil(t *testing.T, l []api.Pair) {
	t.Helper()
	l = l[:cap(l)]
	for i, p := range l {
		fill(p.Key, byte(2*i))
		fill(p.Value, byte(2*i+1))
	}
	for i, p := range l {
		for k, b := range [2][]byte{p.Key, p.Value} {
			for _, c := range b[:cap(b)] {
				if c != byte(2*i+k) {
					t.Fatalf("two lists of one answer share memory")
				}
			}
		}
	}
	for i := range l {
		l[i] = api.Pair{Key: []byte("spoilt")}
	}
}

// What is handed in stays as it is, its spare room too, and no answer shares memory with it, or with another answer.
func TestAnswersAreNewMemory(t *testing.T) {
	d := die(5)
	for range 300 {
		plain := d.tree()
		key := d.key()
		if len(plain) > 0 && d.n(2) == 0 {
			key = plain[d.n(len(plain))].Key
		}
		l := roomyPairs(plain)
		p := api.Pair{Key: roomy(key), Value: roomy(d.bytes(3))}
		handed := []api.Pair{p}
		before, beforePair := whole(l), whole(handed)
		calls := []func() []api.Pair{
			func() []api.Pair { out, _ := Put(l, p); return out },
			func() []api.Pair { out, _ := Delete(l, p.Key); return out },
			func() []api.Pair { out, _ := Range(l, []byte{0}, p.Key); return out },
			func() []api.Pair { out, _ := Range(l, p.Key, p.Key); return out },
			func() []api.Pair { out, _ := Get(l, p.Key); return []api.Pair{{Value: out.Value}} },
			func() []api.Pair { out, _ := Root(l); return []api.Pair{{Value: out}} },
		}
		for i, call := range calls {
			first, second := call(), call()
			kept := whole(second)
			spoil(t, first)
			if !bytes.Equal(whole(l), before) || !bytes.Equal(whole(handed), beforePair) {
				t.Fatalf("call %d: what was handed in has changed", i)
			}
			if !bytes.Equal(whole(second), kept) {
				t.Fatalf("call %d: two answers share memory", i)
			}
			if e := Check(l); e != api.OK || !bytes.Equal(whole(l), before) {
				t.Fatalf("Check: %v, or what was handed in has changed", e)
			}
		}
	}
}

// A pair that is put may be a piece of the tree itself.
func TestPutOfOwnPiece(t *testing.T) {
	l := of("abc", "1", "b", "2")
	got, e := Put(l, api.Pair{Key: l[0].Key[:2], Value: l[0].Key})
	wantPairs(t, "Put of a piece", got, e, of("ab", "abc", "abc", "1", "b", "2"))
	spoil(t, got)
	wantPairs(t, "the tree behind that", l, api.OK, of("abc", "1", "b", "2"))
}
