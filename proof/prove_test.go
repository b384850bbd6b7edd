package proof

import (
	"bytes"
	"encoding/hex"
	"slices"
	"strings"
	"testing"

	"canopy/api"
	"canopy/path"
	"canopy/tree"
)

// die: numbers that look drawn, the same each time.
type die uint64

func (d *die) n(most int) int {
	*d = *d*6364136223846793005 + 1442695040888963407
	return int(uint64(*d>>33) % uint64(most))
}

func (d *die) bytes(n int) []byte {
	b := make([]byte, n)
	for i := range b {
		b[i] = byte(d.n(256))
	}
	return b
}

// key: mostly of few bytes of few kinds, so that keys meet, and begin with one another.
func (d *die) key() []byte {
	if d.n(5) == 0 {
		return d.bytes(1 + d.n(api.MaxKey))
	}
	key := make([]byte, 1+d.n(3))
	for i := range key {
		key[i] = []byte{0, 1, 'a', 'b', 255}[d.n(5)]
	}
	return key
}

func (d *die) tree(most int) []api.Pair {
	held := map[string]string{}
	for range d.n(most + 1) {
		held[string(d.key())] = string(d.bytes(d.n(5)))
	}
	return risen(held)
}

// drawn: a tree and a key, which is in it every second time.
func (d *die) drawn(most int) ([]api.Pair, []byte) {
	l, key := d.tree(most), d.key()
	if len(l) > 0 && d.n(2) == 0 {
		key = l[d.n(len(l))].Key
	}
	return l, key
}

// risen: the pairs of a map, by their keys.
func risen(held map[string]string) []api.Pair {
	var l []api.Pair
	for key, value := range held {
		l = append(l, api.Pair{Key: []byte(key), Value: []byte(value)})
	}
	slices.SortFunc(l, func(a, b api.Pair) int { return strings.Compare(string(a.Key), string(b.Key)) })
	return l
}

// of: pairs of keys and values in turn.
func of(texts ...string) []api.Pair {
	var l []api.Pair
	for i := 0; i < len(texts); i += 2 {
		l = append(l, api.Pair{Key: []byte(texts[i]), Value: []byte(texts[i+1])})
	}
	return l
}

// counted: n pairs that rise.
func counted(n int) []api.Pair {
	var l []api.Pair
	for i := range n {
		l = append(l, api.Pair{Key: []byte{byte(2 * i)}, Value: []byte{byte(i)}})
	}
	return l
}

// deepTree: as many steps as a tree of MaxPairs pairs may have stand ahead of its last pair.
func deepTree() []api.Pair {
	held := map[string]string{}
	for i := range api.MaxPairs {
		held[strings.Repeat("\xff", i/8)+string([]byte{byte(255 << (7 - i%8))})] = strings.Repeat("v", api.MaxValue)
	}
	return risen(held)
}

func rootOfTree(t *testing.T, l []api.Pair) []byte {
	t.Helper()
	root, e := tree.Root(l)
	if e != api.OK {
		t.Fatal(e)
	}
	return root
}

func bitOf(t *testing.T, key []byte, i int) bool {
	t.Helper()
	one, e := path.Bit(key, i)
	if e != api.OK {
		t.Fatal(e)
	}
	return one
}

func sameStep(a, b api.Step) bool {
	return a.Bit == b.Bit && a.Right == b.Right && bytes.Equal(a.Other, b.Other)
}

func sameProof(a, b api.Proof) bool {
	return a.Empty == b.Empty && slices.EqualFunc(a.Steps, b.Steps, sameStep) &&
		bytes.Equal(a.Pair.Key, b.Pair.Key) && bytes.Equal(a.Pair.Value, b.Pair.Value)
}

func isZero(p api.Proof) bool { return sameProof(p, api.Proof{}) }

func mustProve(t *testing.T, l []api.Pair, key []byte) api.Proof {
	t.Helper()
	p, e := Prove(l, key)
	if e != api.OK {
		t.Fatal(e)
	}
	return p
}

// wordedProof: as the chapter words it: each two pairs are held against each other, and the sides are picked pair by pair.
func wordedProof(t *testing.T, l []api.Pair, key []byte) api.Proof {
	t.Helper()
	if len(l) == 0 {
		return api.Proof{Empty: true}
	}
	if len(l) == 1 {
		return api.Proof{Pair: l[0]}
	}
	least := api.MaxPath
	for i, p := range l {
		for _, q := range l[:i] {
			at, e := path.Part(p.Key, q.Key)
			if e != api.OK {
				t.Fatal(e)
			}
			least = min(least, at)
		}
	}
	right := bitOf(t, key, least)
	var near, far []api.Pair
	for _, p := range l {
		if bitOf(t, p.Key, least) == right {
			near = append(near, p)
		} else {
			far = append(far, p)
		}
	}
	rest := wordedProof(t, near, key)
	first := api.Step{Bit: least, Right: right, Other: rootOfTree(t, far)}
	rest.Steps = append([]api.Step{first}, rest.Steps...)
	return rest
}

func wantProof(t *testing.T, l []api.Pair, key []byte) {
	t.Helper()
	got, e := Prove(l, key)
	if want := wordedProof(t, l, key); e != api.OK || !sameProof(got, want) {
		t.Errorf("Prove of %v in %v: %v, %v, want %v", key, l, got, e, want)
	}
}

// step with the digest in base 16.
func step(t *testing.T, bit int, right bool, other string) api.Step {
	t.Helper()
	b, err := hex.DecodeString(other)
	if err != nil {
		t.Fatal(err)
	}
	return api.Step{Bit: bit, Right: right, Other: b}
}

// P4.1: proofs that were worked out by another program.
func TestProve(t *testing.T) {
	long := "abcdefghijklmno"
	four := of("a", "1", "ab", "2", "b", "3", "\xff", "")
	three := of(long, "x", long+"\x00", "y", long+"\x01", "z")
	toA := []api.Step{
		step(t, 1, false, "03a23159a72a62c8149e1d7d3074a4d297ac68c36264b3cd06a1423008e3cc6b"),
		step(t, 7, false, "ba14033d225e18363d63973d139ac263c00e91697e2100c3717d1c33a2430e35"),
		step(t, 9, false, "d3388894ef0f4dce8595a7ed32b5d169bb7b92fec73edb8815b37d10dda376ab"),
	}
	toAB := []api.Step{toA[0], toA[1], step(t, 9, true, "9c0fc4ef268b4df13c5f875ce7378a10e63d76ac3a20020d95fd79ea7e9ae4ed")}
	toB := []api.Step{toA[0], step(t, 7, true, "9dfca73ca62df178b2a160d6dcded1b9b38930c1cd229b13380a2a794bb9ad05")}
	toFF := []api.Step{step(t, 1, true, "15537bf1f313e3283e7e1a67d6573e06f2a569482f0e0fb1b4be97546d5c373a")}
	toLong := []api.Step{step(t, 135, false, "b70d7c2a422acfb2bb563b7a9b147e1b2a08fe5f0cada758f1fe13e242fd6cda")}
	to16 := step(t, 135, true, "05b375f06544089d098229c9a09eb69a4504a2b7a39d01c325e725bb47176163")
	to16at0 := []api.Step{to16, step(t, 143, false, "04e844f14e6aedeb78a644f1729886d92b7c9995c66bbb3ba24098b16953d4e5")}
	to16at1 := []api.Step{to16, step(t, 143, true, "e6ab6d077d75411574ae2a28c6e27b3d59071376dd7c98a49a4c36103b1c3fc1")}
	for _, c := range []struct {
		l    []api.Pair
		key  string
		want api.Proof
	}{
		{nil, "k", api.Proof{Empty: true}},
		{[]api.Pair{}, "k", api.Proof{Empty: true}},
		{of("k", "\x07"), "k", api.Proof{Pair: of("k", "\x07")[0]}},
		{of("k", "\x07"), "x", api.Proof{Pair: of("k", "\x07")[0]}},
		{four, "a", api.Proof{Steps: toA, Pair: four[0]}},
		{four, "\x00", api.Proof{Steps: toA, Pair: four[0]}},
		{four, "ab", api.Proof{Steps: toAB, Pair: four[1]}},
		{four, "ac", api.Proof{Steps: toAB, Pair: four[1]}},
		{four, "b", api.Proof{Steps: toB, Pair: four[2]}},
		{four, "zz", api.Proof{Steps: toB, Pair: four[2]}},
		{four, "\xff", api.Proof{Steps: toFF, Pair: four[3]}},
		{three, long, api.Proof{Steps: toLong, Pair: three[0]}},
		{three, "q", api.Proof{Steps: toLong, Pair: three[0]}},
		{three, long + "\x00", api.Proof{Steps: to16at0, Pair: three[1]}},
		{three, long + "\x01", api.Proof{Steps: to16at1, Pair: three[2]}},
	} {
		if got, e := Prove(c.l, []byte(c.key)); e != api.OK || !sameProof(got, c.want) {
			t.Errorf("Prove of %q: %v, %v, want %v", c.key, got, e, c.want)
		}
	}
}

// P4.1: each key of trees that are full, and keys beside them; the deepest one has a step for each other pair.
func TestProveInFullTrees(t *testing.T) {
	d := die(1)
	for _, l := range [][]api.Pair{counted(api.MaxPairs), deepTree()} {
		if len(l) != api.MaxPairs {
			t.Fatalf("%d pairs", len(l))
		}
		for _, p := range l {
			wantProof(t, l, p.Key)
			wantProof(t, l, d.key())
		}
	}
	l := deepTree()
	if p := mustProve(t, l, l[len(l)-1].Key); len(p.Steps) != api.MaxPairs-1 {
		t.Errorf("%d steps", len(p.Steps))
	}
}

// P4.1: two keys that part at each bit at which two keys may.
func TestProveAtEachBit(t *testing.T) {
	key := []byte("abcdefghijklmnop")
	for n := range api.MaxKey {
		for shift := range 8 {
			other := bytes.Clone(key)
			other[n] ^= 128 >> shift
			l := risen(map[string]string{string(key): "1", string(other): "2"})
			wantProof(t, l, key)
			wantProof(t, l, other)
			if p := mustProve(t, l, key); p.Steps[0].Bit != 9*n+1+shift {
				t.Errorf("parted at %d", p.Steps[0].Bit)
			}
		}
		if n > 0 {
			l := of(string(key[:n]), "1", string(key), "2")
			wantProof(t, l, key)
			wantProof(t, l, key[:n])
		}
	}
}

// P4.1: drawn trees.
func TestProveInDrawnTrees(t *testing.T) {
	d := die(2)
	for range 1000 {
		l, key := d.drawn(20)
		wantProof(t, l, key)
	}
}

// P4.1: what is no tree is refused as a tree refuses it, ahead of what is no key.
func TestProveRefuses(t *testing.T) {
	long, wide := strings.Repeat("k", api.MaxKey+1), strings.Repeat("v", api.MaxValue+1)
	most := strings.Repeat("k", api.MaxKey)
	noKeys := [][]byte{nil, {}, []byte(long), make([]byte, 1000)}
	for _, c := range []struct {
		what string
		l    []api.Pair
		want api.Errno
	}{
		{"one pair too many", counted(api.MaxPairs + 1), api.ErrSize},
		{"no key", of("", "v"), api.ErrSize},
		{"a long key", of(long, ""), api.ErrSize},
		{"a long value", of("a", "", "b", wide), api.ErrSize},
		{"falling", of("b", "", "a", ""), api.ErrOrder},
		{"twice", of("a", "1", "a", "2"), api.ErrOrder},
		{"a longer one ahead", of("ab", "", "a", ""), api.ErrOrder},
		{"falling, then a long value", of("b", "", "a", "", "c", wide), api.ErrOrder},
	} {
		for _, key := range append(slices.Clone(noKeys), []byte("a")) {
			if got, e := Prove(c.l, key); !isZero(got) || e != c.want {
				t.Errorf("%s: %v, %v, want %v", c.what, got, e, c.want)
			}
		}
	}
	for _, l := range [][]api.Pair{nil, of("a", "1"), counted(api.MaxPairs)} {
		for _, key := range noKeys {
			if got, e := Prove(l, key); !isZero(got) || e != api.ErrSize {
				t.Errorf("a key of %d bytes: %v, %v", len(key), got, e)
			}
		}
		wantProof(t, l, []byte(most))
	}
}
