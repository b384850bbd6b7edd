package forest

import (
	"bytes"
	"encoding/hex"
	"slices"
	"strings"
	"testing"

	"canopy/api"
	"canopy/proof"
	"canopy/tree"
)

func sameStep(a, b api.Step) bool {
	return a.Bit == b.Bit && a.Right == b.Right && bytes.Equal(a.Other, b.Other)
}

func sameProof(a, b api.Proof) bool {
	return a.Empty == b.Empty && slices.EqualFunc(a.Steps, b.Steps, sameStep) && samePair(a.Pair, b.Pair)
}

func isZero(p api.Proof) bool { return sameProof(p, api.Proof{}) }

// unhex: bytes in base 16.
func unhex(t *testing.T, text string) []byte {
	t.Helper()
	b, err := hex.DecodeString(text)
	if err != nil {
		t.Fatal(err)
	}
	return b
}

func treeRoot(t *testing.T, l []api.Pair) []byte {
	t.Helper()
	root, e := tree.Root(l)
	if e != api.OK {
		t.Fatal(e)
	}
	return root
}

func treeProof(t *testing.T, l []api.Pair, key []byte) api.Proof {
	t.Helper()
	p, e := proof.Prove(l, key)
	if e != api.OK {
		t.Fatal(e)
	}
	return p
}

func mustRoot(t *testing.T, l []api.Tenant) []byte {
	t.Helper()
	root, e := Root(l)
	if e != api.OK {
		t.Fatal(e)
	}
	return root
}

func mustProve(t *testing.T, l []api.Tenant, name, key []byte) (outer, inner api.Proof) {
	t.Helper()
	outer, inner, e := Prove(l, name, key)
	if e != api.OK {
		t.Fatal(e)
	}
	return outer, inner
}

// roots: the pairs of names and roots, as P5.5 words them.
func roots(t *testing.T, l []api.Tenant) []api.Pair {
	t.Helper()
	var out []api.Pair
	for _, one := range l {
		out = append(out, api.Pair{Key: one.Name, Value: treeRoot(t, one.Pairs)})
	}
	return out
}

func three() []api.Tenant {
	return tenants(tenant("a", "k", "\x07", "ka", ""), tenant("ab", "x", "1"), tenant("z\xff\x00\x00\x00\x00\x00\x00", "k", "\x08"))
}

// P5.5: roots that were worked out by another program.
func TestRoot(t *testing.T) {
	for _, c := range []struct {
		l    []api.Tenant
		want string
	}{
		{nil, "5d53469f20fef4f8eab52b88044ede69c77a6a68a60728609fc4a65ff531e7d0"},
		{tenants(tenant("a", "k", "\x07")), "ab1cc1490355d67e66a6fcec736fd50302a89be5d774fdab7c8bcd63d4b0f0e3"},
		{three(), "17efe9762f70428afd006e25df1d1982dd8092b63731f897712ee483058eb2ab"},
		{full(api.MaxTenants), "7562922c0f95880922a0a34b247f86c29eed1f9748555315f5069fdd1a9434c4"},
	} {
		if got, e := Root(c.l); e != api.OK || !bytes.Equal(got, unhex(t, c.want)) {
			t.Errorf("Root of %d tenants: %x, %v, want %s", len(c.l), got, e, c.want)
		}
	}
}

// P5.5: as the chapter words it; and the root hangs on what the tenants have, not on how it came.
func TestRootOfDrawnForests(t *testing.T) {
	d := die(3)
	for range 300 {
		l := d.forest()
		if got, want := mustRoot(t, l), treeRoot(t, roots(t, l)); !bytes.Equal(got, want) {
			t.Fatalf("Root of %v: %x, want %x", l, got, want)
		}
		w := d.write()
		behind, e := Apply(l, writes(w))
		if e != api.OK {
			continue
		}
		if same := sameTenants(l, behind); same != bytes.Equal(mustRoot(t, l), mustRoot(t, behind)) {
			t.Fatalf("%v to %v: the same forest: %v", w, l, same)
		}
	}
}

// P5.6: proofs that were worked out by another program.
func TestProve(t *testing.T) {
	l := three()
	step := func(bit int, right bool, other string) api.Step {
		return api.Step{Bit: bit, Right: right, Other: unhex(t, other)}
	}
	root := func(text string) []byte { return unhex(t, text) }
	notZ := step(4, false, "0754cf0551993e9d751032960fea3a4aad6f52bddc9ab400d98e8c6877e54c46")
	toA := api.Proof{
		Steps: []api.Step{notZ, step(9, false, "ac58430b2a034d0f8e4bc32468b62eb6f3c4e6339ff11fbab835cad6d4cff4df")},
		Pair:  api.Pair{Key: []byte("a"), Value: root("f38640d77f69b87851e415acccb9d65245e80e275c2303d5f5fd723659b1188c")},
	}
	toAB := api.Proof{
		Steps: []api.Step{notZ, step(9, true, "49ead8d20819a253a68c4cbb80874d2f380e7fa03aad895b738ad9901169ba32")},
		Pair:  api.Pair{Key: []byte("ab"), Value: root("57abac4c26c8793fd343e3147d35d62d91b9f2cd4d001502f8fe36e23164f64a")},
	}
	toZ := api.Proof{
		Steps: []api.Step{step(4, true, "9d677c9924e8fc81e27fc603de791805314cc16dcaf47262851a40857c50c46b")},
		Pair:  api.Pair{Key: l[2].Name, Value: root("13f0fbf408c126d6ae5f2bc44a7ed2971ab7dc21943926536082dc57163abd88")},
	}
	toK := api.Proof{Steps: []api.Step{step(9, false, "1c4d4959ff53ba9af58909d6b18eb23803e11e993d8a685748ecab5ae3e13530")}, Pair: l[0].Pairs[0]}
	toKA := api.Proof{Steps: []api.Step{step(9, true, "ef4c91f3e93178546f7006f450b8b5714aabbeb4a432081cea38cea296dcff62")}, Pair: l[0].Pairs[1]}
	empty := api.Proof{Empty: true}
	for _, c := range []struct {
		l            []api.Tenant
		name, key    string
		outer, inner api.Proof
	}{
		{nil, "a", "k", empty, empty},
		{l, "a", "k", toA, toK},
		{l, "a", "kb", toA, toKA},
		{l, "ab", "x", toAB, api.Proof{Pair: l[1].Pairs[0]}},
		{l, string(l[2].Name), "q", toZ, api.Proof{Pair: l[2].Pairs[0]}},
		{l, "b", "k", toA, empty},
		{l, "zz", "k", toZ, empty},
	} {
		outer, inner, e := Prove(c.l, []byte(c.name), []byte(c.key))
		if e != api.OK || !sameProof(outer, c.outer) || !sameProof(inner, c.inner) {
			t.Errorf("Prove of %q at %q: %v, %v, %v, want %v, %v", c.key, c.name, outer, inner, e, c.outer, c.inner)
		}
	}
}

// P5.6, P5.7: proofs are as the chapter words them, hold, and tell what Get tells.
func TestProofsTellWhatGetTells(t *testing.T) {
	d := die(4)
	check := func(l []api.Tenant, name, key []byte) {
		t.Helper()
		outer, inner := mustProve(t, l, name, key)
		if !sameProof(outer, treeProof(t, roots(t, l), name)) || !sameProof(inner, treeProof(t, pairsNamed(l, name), key)) {
			t.Fatalf("Prove of %q at %q in %v: %v, %v", key, name, l, outer, inner)
		}
		want, _ := Get(l, name, key)
		if got, e := Verify(mustRoot(t, l), name, key, outer, inner); e != api.OK || !sameFinding(got, want) {
			t.Fatalf("Verify of %q at %q in %v: %v, %v, want %v", key, name, l, got, e, want)
		}
	}
	for range 500 {
		check(d.drawn())
	}
	l := full(api.MaxTenants)
	for _, one := range l {
		check(l, one.Name, one.Pairs[d.n(api.MaxPairs)].Key)
		check(l, d.name(), d.key())
	}
	check(nil, []byte("a"), []byte("k"))
	check(tenants(tenant("a", "k", "")), []byte("a"), []byte("k"))
	check(tenants(tenant(strings.Repeat("n", api.MaxName), "k", "1")), bytes.Repeat([]byte("n"), api.MaxName), bytes.Repeat([]byte("k"), api.MaxKey))
}

// What one tenant has does not touch what another one proves of itself.
func TestTenantsAreApart(t *testing.T) {
	d := die(5)
	for range 500 {
		l, name, key := d.drawn()
		w := d.write()
		behind, e := Apply(l, writes(w))
		if e != api.OK || bytes.Equal(w.Name, name) {
			continue
		}
		_, before := mustProve(t, l, name, key)
		outer, inner := mustProve(t, behind, name, key)
		if !sameProof(before, inner) {
			t.Fatalf("%v to %v: another inner proof of %q at %q", w, l, key, name)
		}
		want, _ := Get(l, name, key)
		if got, e := Verify(mustRoot(t, behind), name, key, outer, before); e != api.OK || !sameFinding(got, want) {
			t.Fatalf("%v to %v: Verify of %q at %q: %v, %v, want %v", w, l, key, name, got, e, want)
		}
	}
}
