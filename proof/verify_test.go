package proof

import (
	"bytes"
	"math"
	"slices"
	"strings"
	"testing"

	"canopy/api"
	"canopy/digest"
	"canopy/tree"
)

func other() []byte { return bytes.Repeat([]byte{9}, 32) }

// along: a proof with steps at bits, each as the pair's key goes.
func along(t *testing.T, pair api.Pair, bits ...int) api.Proof {
	t.Helper()
	p := api.Proof{Pair: pair}
	for _, bit := range bits {
		p.Steps = append(p.Steps, api.Step{Bit: bit, Right: bitOf(t, pair.Key, bit), Other: other()})
	}
	return p
}

func allBits() []int {
	var bits []int
	for i := range api.MaxPath {
		bits = append(bits, i)
	}
	return bits
}

// P4.2: what may be a proof.
func TestCheck(t *testing.T) {
	long, wide := strings.Repeat("k", api.MaxKey), strings.Repeat("v", api.MaxValue)
	pair := of("a", "1")[0]
	for _, c := range []struct {
		what, key string
		p         api.Proof
	}{
		{"an Empty one", "a", api.Proof{Empty: true}},
		{"an Empty one with lists that have nothing", long, api.Proof{Empty: true, Steps: []api.Step{}, Pair: api.Pair{Key: []byte{}, Value: []byte{}}}},
		{"no steps", "a", api.Proof{Pair: pair}},
		{"no steps, and another key", "b", api.Proof{Pair: pair}},
		{"no value", "a", api.Proof{Pair: of("a", "")[0]}},
		{"the longest pair", long, api.Proof{Pair: of(long, wide)[0]}},
		{"the first bit", "a", along(t, pair, 0)},
		{"the last bit", "a", along(t, pair, api.MaxPath-1)},
		{"the first and the last bit", "a", along(t, pair, 0, api.MaxPath-1)},
		{"each bit", "a", along(t, pair, allBits()...)},
		{"each bit of the longest pair", long, along(t, of(long, wide)[0], allBits()...)},
		{"another key that goes the same way", "b", along(t, pair, 0, 1, 2, 3, 4, 5, 6, 9, 10)},
		{"a longer key that goes the same way", "ab", along(t, pair, 0, 1, 8, 18, api.MaxPath-1)},
	} {
		if e := Check([]byte(c.key), c.p); e != api.OK {
			t.Errorf("%s: %v", c.what, e)
		}
	}
}

// wrongProofs for the key a.
func wrongProofs(t *testing.T) map[string]api.Proof {
	t.Helper()
	pair := of("a", "1")[0]
	turned := func(p api.Proof, at int) api.Proof {
		p.Steps[at].Right = !p.Steps[at].Right
		return p
	}
	with := func(p api.Proof, at int, other []byte) api.Proof {
		p.Steps[at].Other = other
		return p
	}
	at := func(bits ...int) api.Proof {
		p := api.Proof{Pair: pair}
		for _, bit := range bits {
			p.Steps = append(p.Steps, api.Step{Bit: bit, Other: other()})
		}
		return p
	}
	return map[string]api.Proof{
		"nothing":                          {},
		"Empty, with a step":               {Empty: true, Steps: along(t, pair, 0).Steps},
		"Empty, with a step of nothing":    {Empty: true, Steps: make([]api.Step, 1)},
		"Empty, with a key":                {Empty: true, Pair: api.Pair{Key: []byte("a")}},
		"Empty, with a value":              {Empty: true, Pair: api.Pair{Value: []byte("1")}},
		"Empty, with a pair":               {Empty: true, Pair: pair},
		"Empty, with all":                  {Empty: true, Steps: along(t, pair, 0).Steps, Pair: pair},
		"no key":                           {Pair: of("", "1")[0]},
		"a long key":                       {Pair: of(strings.Repeat("a", api.MaxKey+1), "1")[0]},
		"a long value":                     {Pair: of("a", strings.Repeat("v", api.MaxValue+1))[0]},
		"no key behind a step":             {Steps: along(t, pair, 0).Steps},
		"the bit -1":                       at(-1),
		"the bit MaxPath":                  at(api.MaxPath),
		"the least number":                 at(math.MinInt),
		"the greatest number":              at(math.MaxInt),
		"a bit that is one as a byte":      at(256 + 3),
		"a bit too far behind others":      at(9, 20, api.MaxPath),
		"twice":                            along(t, pair, 4, 4),
		"falling":                          along(t, pair, 5, 4),
		"falling late":                     along(t, pair, 1, 7, 9, 8),
		"each bit, and the last one again": along(t, pair, append(allBits(), api.MaxPath-1)...),
		"the first bit to the left":        turned(along(t, pair, 0), 0),
		"the last bit to the right":        turned(along(t, pair, api.MaxPath-1), 0),
		"the last step turned":             turned(along(t, pair, 1, 7, 9), 2),
		"the first step turned":            turned(along(t, pair, 1, 7, 9), 0),
		"no Other":                         with(along(t, pair, 1), 0, nil),
		"an Other of 31 bytes":             with(along(t, pair, 1, 7), 1, make([]byte, 31)),
		"an Other of 33 bytes":             with(along(t, pair, 1, 7), 0, make([]byte, 33)),
		"the pair goes elsewhere":          along(t, of("b", "1")[0], 1, 7),
	}
}

// P4.2: what is not in form; a key that is none is told ahead of that.
func TestCheckRefuses(t *testing.T) {
	wrong := wrongProofs(t)
	for what, p := range wrong {
		if e := Check([]byte("a"), p); e != api.ErrForm {
			t.Errorf("%s: %v", what, e)
		}
	}
	wrong["an Empty one"] = api.Proof{Empty: true}
	wrong["a good one"] = along(t, of("a", "1")[0], 1, 7)
	for what, p := range wrong {
		for _, key := range [][]byte{nil, {}, make([]byte, api.MaxKey+1)} {
			if e := Check(key, p); e != api.ErrSize {
				t.Errorf("%s, and a key of %d bytes: %v", what, len(key), e)
			}
		}
	}
}

// P4.2: at each bit the key, and the pair's key, must go as the step says.
func TestCheckOfEachBit(t *testing.T) {
	d := die(3)
	for range 60 {
		key, pair := d.key(), api.Pair{Key: d.key()}
		for bit := range api.MaxPath {
			for _, right := range [2]bool{false, true} {
				p := api.Proof{Pair: pair, Steps: []api.Step{{Bit: bit, Right: right, Other: other()}}}
				want := api.ErrForm
				if bitOf(t, key, bit) == right && bitOf(t, pair.Key, bit) == right {
					want = api.OK
				}
				if e := Check(key, p); e != want {
					t.Fatalf("Check of %v with %v at %d, %v: %v, want %v", key, pair.Key, bit, right, e, want)
				}
			}
		}
	}
}

// wordedRoot of a proof: as the chapter words it, from the first step on, which asks for what is behind it.
func wordedRoot(t *testing.T, p api.Proof) []byte {
	t.Helper()
	parts := func(kind byte, l ...[]byte) []byte {
		d, e := digest.Parts(kind, l...)
		if e != api.OK {
			t.Fatal(e)
		}
		return d
	}
	if p.Empty {
		return parts(0)
	}
	if len(p.Steps) == 0 {
		return parts(1, p.Pair.Key, p.Pair.Value)
	}
	first := p.Steps[0]
	p.Steps = p.Steps[1:]
	if below := wordedRoot(t, p); first.Right {
		return parts(2, []byte{byte(first.Bit)}, first.Other, below)
	} else {
		return parts(2, []byte{byte(first.Bit)}, below, first.Other)
	}
}

func wantFinding(t *testing.T, what string, got api.Finding, e api.Errno, want api.Finding) {
	t.Helper()
	if e != api.OK || got.Found != want.Found || !bytes.Equal(got.Value, want.Value) {
		t.Errorf("%s: %v, %v, want %v", what, got, e, want)
	}
}

func wantRefused(t *testing.T, what string, got api.Finding, e, want api.Errno) {
	t.Helper()
	if e != want || got.Found || len(got.Value) != 0 {
		t.Errorf("%s: %v, %v, want %v", what, got, e, want)
	}
}

// P4.1, P4.3: each proof that was made holds, and tells what Get tells.
func TestProofsTellWhatGetTells(t *testing.T) {
	d := die(4)
	trees := [][]api.Pair{nil, of("a", ""), counted(api.MaxPairs), deepTree()}
	for range 500 {
		trees = append(trees, d.tree(20))
	}
	for _, l := range trees {
		root := rootOfTree(t, l)
		keys := [][]byte{d.key(), d.key(), d.bytes(api.MaxKey)}
		for _, p := range l {
			keys = append(keys, p.Key)
		}
		for _, key := range keys {
			p := mustProve(t, l, key)
			if e := Check(key, p); e != api.OK {
				t.Errorf("Check of %v in %v: %v", key, l, e)
			}
			want, _ := tree.Get(l, key)
			got, e := Verify(root, key, p)
			wantFinding(t, "Verify", got, e, want)
		}
	}
}

// P4.3: a value without bytes is one; what another pair has is not told.
func TestVerify(t *testing.T) {
	l := of("a", "", "b", "2")
	root := rootOfTree(t, l)
	for _, c := range []struct {
		key  string
		want api.Finding
	}{
		{"a", api.Finding{Found: true}}, {"b", api.Finding{Found: true, Value: []byte("2")}},
		{"c", api.Finding{}}, {"A", api.Finding{}}, {"a\x00", api.Finding{}}, {"bb", api.Finding{}},
	} {
		got, e := Verify(root, []byte(c.key), mustProve(t, l, []byte(c.key)))
		wantFinding(t, c.key, got, e, c.want)
	}
	none := rootOfTree(t, nil)
	got, e := Verify(none, []byte("a"), api.Proof{Empty: true, Steps: []api.Step{}, Pair: api.Pair{Key: []byte{}}})
	wantFinding(t, "no pairs", got, e, api.Finding{})
	got, e = Verify(none, []byte("a"), api.Proof{Pair: l[0]})
	wantRefused(t, "a pair of no pairs", got, e, api.ErrProof)
	got, e = Verify(root, []byte("a"), api.Proof{Empty: true})
	wantRefused(t, "no pairs of some", got, e, api.ErrProof)
}

// P4.3: what may be a proof holds against the digest that comes of it, and against no other.
func TestVerifyOfDrawnSteps(t *testing.T) {
	d := die(5)
	proofs := []api.Proof{along(t, of("a", "1")[0], allBits()...)}
	for range 300 {
		var bits []int
		for bit := d.n(30); bit < api.MaxPath; bit += 1 + d.n(30) {
			bits = append(bits, bit)
		}
		p := along(t, api.Pair{Key: d.key(), Value: d.bytes(d.n(api.MaxValue + 1))}, bits...)
		for i := range p.Steps {
			p.Steps[i].Other = d.bytes(32)
		}
		proofs = append(proofs, p)
	}
	for _, p := range proofs {
		root := wordedRoot(t, p)
		got, e := Verify(root, p.Pair.Key, p)
		wantFinding(t, "Verify", got, e, api.Finding{Found: true, Value: p.Pair.Value})
		root[d.n(32)] ^= 1 << d.n(8)
		got, e = Verify(root, p.Pair.Key, p)
		wantRefused(t, "another root", got, e, api.ErrProof)
	}
}

// P4.3: a root that has not 32 bytes is told ahead of all else, and what Check refuses ahead of a proof that does not hold.
func TestVerifyRefuses(t *testing.T) {
	wrong := wrongProofs(t)
	root := rootOfTree(t, nil)
	for what, p := range wrong {
		got, e := Verify(root, []byte("a"), p)
		wantRefused(t, what, got, e, api.ErrForm)
	}
	wrong["an Empty one"] = api.Proof{Empty: true}
	wrong["a good one"] = along(t, of("a", "1")[0], 1, 7)
	for what, p := range wrong {
		for _, short := range [][]byte{nil, {}, root[:31], append(slices.Clone(root), 0)} {
			got, e := Verify(short, []byte("a"), p)
			wantRefused(t, "a wrong root, and "+what, got, e, api.ErrSize)
		}
		for _, key := range [][]byte{nil, {}, make([]byte, api.MaxKey+1)} {
			got, e := Verify(root, key, p)
			wantRefused(t, "no key, and "+what, got, e, api.ErrSize)
		}
	}
}

// cloned: a proof that shares nothing with another one.
func cloned(p api.Proof) api.Proof {
	p.Steps = slices.Clone(p.Steps)
	for i := range p.Steps {
		p.Steps[i].Other = bytes.Clone(p.Steps[i].Other)
	}
	p.Pair = api.Pair{Key: bytes.Clone(p.Pair.Key), Value: bytes.Clone(p.Pair.Value)}
	return p
}

// bent: proofs that differ from one in one thing.
func bent(p api.Proof, d *die) []api.Proof {
	var out []api.Proof
	bend := func(f func(p *api.Proof)) {
		c := cloned(p)
		f(&c)
		out = append(out, c)
	}
	bend(func(p *api.Proof) { p.Empty = !p.Empty })
	bend(func(p *api.Proof) { p.Pair.Value = append(p.Pair.Value, 0) })
	bend(func(p *api.Proof) { p.Pair.Key = append(p.Pair.Key, 0) })
	if len(p.Pair.Value) > 0 {
		bend(func(p *api.Proof) { p.Pair.Value[0] ^= 1 })
		bend(func(p *api.Proof) { p.Pair.Value = p.Pair.Value[1:] })
	}
	if len(p.Pair.Key) > 0 {
		bend(func(p *api.Proof) { p.Pair.Key[d.n(len(p.Pair.Key))] ^= 1 << d.n(8) })
	}
	for i := range p.Steps {
		bend(func(p *api.Proof) { p.Steps[i].Right = !p.Steps[i].Right })
		bend(func(p *api.Proof) { p.Steps[i].Bit++ })
		bend(func(p *api.Proof) { p.Steps[i].Bit-- })
		bend(func(p *api.Proof) { p.Steps[i].Other[d.n(32)] ^= 1 << d.n(8) })
		bend(func(p *api.Proof) { p.Steps = slices.Delete(p.Steps, i, i+1) })
	}
	return out
}

// P4.2, P4.3: a proof that is bent in one thing does not hold, and is refused by one of the two errors.
func TestBentProofsDoNotHold(t *testing.T) {
	d := die(6)
	seen := map[api.Errno]int{}
	for range 300 {
		l, key := d.drawn(12)
		root := rootOfTree(t, l)
		for _, p := range bent(mustProve(t, l, key), &d) {
			want := api.ErrProof
			if e := Check(key, p); e != api.OK {
				want = api.ErrForm
			}
			got, e := Verify(root, key, p)
			wantRefused(t, "a bent proof", got, e, want)
			seen[e]++
		}
	}
	if seen[api.ErrProof] < 100 || seen[api.ErrForm] < 100 {
		t.Errorf("refused: %v", seen)
	}
}

// P4.3: a proof tells nothing of a key that goes another way, and a key that goes the same way is none of the tree's.
func TestProofsOfOtherKeys(t *testing.T) {
	d := die(7)
	for range 500 {
		l, key := d.drawn(12)
		p, second := mustProve(t, l, key), d.key()
		got, e := Verify(rootOfTree(t, l), second, p)
		if sameProof(p, mustProve(t, l, second)) {
			want, _ := tree.Get(l, second)
			wantFinding(t, "another key that goes the same way", got, e, want)
		} else {
			wantRefused(t, "another key that goes elsewhere", got, e, api.ErrForm)
		}
	}
}
