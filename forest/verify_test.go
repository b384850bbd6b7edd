package forest

import (
	"bytes"
	"testing"

	"canopy/api"
)

// claim: what Verify is handed.
type claim struct {
	root, name, key []byte
	outer, inner    api.Proof
}

func (c claim) verify() (api.Finding, api.Errno) {
	return Verify(c.root, c.name, c.key, c.outer, c.inner)
}

// claimOf a key of a tenant.
func claimOf(t *testing.T, l []api.Tenant, name, key string) claim {
	t.Helper()
	c := claim{root: mustRoot(t, l), name: []byte(name), key: []byte(key)}
	c.outer, c.inner = mustProve(t, l, c.name, c.key)
	return c
}

// claimOver pairs that no forest need have.
func claimOver(t *testing.T, outer, inner []api.Pair, name, key string) claim {
	t.Helper()
	return claim{treeRoot(t, outer), []byte(name), []byte(key), treeProof(t, outer, []byte(name)), treeProof(t, inner, []byte(key))}
}

func with(c claim, change func(c *claim)) claim {
	change(&c)
	return c
}

func wantFinding(t *testing.T, what string, c claim, want api.Finding) {
	t.Helper()
	if got, e := c.verify(); e != api.OK || !sameFinding(got, want) {
		t.Errorf("%s: %v, %v, want %v", what, got, e, want)
	}
}

func wantRefused(t *testing.T, what string, c claim, want api.Errno) {
	t.Helper()
	if got, e := c.verify(); e != want || !sameFinding(got, api.Finding{}) {
		t.Errorf("%s: %v, %v, want %v", what, got, e, want)
	}
}

// P5.7: what proofs tell.
func TestVerify(t *testing.T) {
	l := three()
	for _, c := range []struct {
		name, key string
		want      api.Finding
	}{
		{"a", "k", api.Finding{Found: true, Value: []byte{7}}},
		{"a", "ka", api.Finding{Found: true}},
		{"a", "x", api.Finding{}},
		{"ab", "x", api.Finding{Found: true, Value: []byte("1")}},
		{"ab", "k", api.Finding{}},
		{"b", "k", api.Finding{}},
		{"zz", "k", api.Finding{}},
		{string(l[2].Name), "k", api.Finding{Found: true, Value: []byte{8}}},
	} {
		wantFinding(t, c.name+" "+c.key, claimOf(t, l, c.name, c.key), c.want)
	}
	wantFinding(t, "nothing", claimOf(t, nil, "a", "k"), api.Finding{})
}

// P5.7: a name has a root, or that of no pairs: whatever else the inner proof holds against does not do.
func TestVerifyHoldsTheInnerProofAgainstTheNamesRoot(t *testing.T) {
	l := tenants(tenant("a", "k", "1"), tenant("b", "k", "2"))
	ofA, ofB, ofC := claimOf(t, l, "a", "k"), claimOf(t, l, "b", "k"), claimOf(t, l, "c", "k")
	empty := api.Proof{Empty: true}
	wantRefused(t, "the inner proof of another one", with(ofA, func(c *claim) { c.inner = ofB.inner }), api.ErrProof)
	wantRefused(t, "no pairs of a tenant", with(ofA, func(c *claim) { c.inner = empty }), api.ErrProof)
	wantRefused(t, "a pair of no tenant", with(ofC, func(c *claim) { c.inner = ofB.inner }), api.ErrProof)
	wantRefused(t, "another one's pair of no tenant", with(ofC, func(c *claim) { c.inner = treeProof(t, l[0].Pairs, c.key) }), api.ErrProof)
	wantRefused(t, "the outer proof as the inner one", with(ofA, func(c *claim) { c.inner = api.Proof{Pair: ofA.outer.Pair} }), api.ErrProof)
	none := treeRoot(t, nil)
	wantFinding(t, "a name with the root of no pairs", claimOver(t, of("a", string(none)), nil, "a", "k"), api.Finding{})
	wantRefused(t, "such a name, and a pair", claimOver(t, of("a", string(none)), of("k", "1"), "a", "k"), api.ErrProof)
}

// P5.7: the name, then the outer proof, then the inner one.
func TestVerifyRefuses(t *testing.T) {
	good := claimOf(t, three(), "a", "k")
	badInner := api.Proof{Empty: true, Pair: api.Pair{Key: []byte("k")}}
	badOuter := func(c *claim) { c.outer = api.Proof{} }
	otherRoot := func(c *claim) { c.root = treeRoot(t, nil) }
	wantFinding(t, "good", good, api.Finding{Found: true, Value: []byte{7}})
	for _, name := range noNames() {
		c := with(good, func(c *claim) { c.name = name })
		wantRefused(t, "a wrong name", c, api.ErrSize)
		wantRefused(t, "a wrong name, and an outer proof not in form", with(c, badOuter), api.ErrSize)
		wantRefused(t, "a wrong name, and another root", with(c, otherRoot), api.ErrSize)
	}
	// A key that is no name: the proofs hold, but it is none.
	nine := "123456789"
	wantRefused(t, "a long name with proofs", claimOver(t, of(nine, string(treeRoot(t, of("k", "1")))), of("k", "1"), nine, "k"), api.ErrSize)
	for _, root := range [][]byte{nil, {}, good.root[:31], append(bytes.Clone(good.root), 0)} {
		c := with(good, func(c *claim) { c.root = root })
		wantRefused(t, "a wrong root", c, api.ErrSize)
		wantRefused(t, "a wrong root, and an outer proof not in form", with(c, badOuter), api.ErrSize)
	}
	wantRefused(t, "an outer proof not in form", with(good, badOuter), api.ErrForm)
	wantRefused(t, "an outer proof of a name elsewhere", with(good, func(c *claim) { c.name = []byte("zz") }), api.ErrForm)
	wantRefused(t, "an outer proof not in form, and no key", with(with(good, badOuter), func(c *claim) { c.key = nil }), api.ErrForm)
	wantRefused(t, "another root", with(good, otherRoot), api.ErrProof)
	for _, key := range noKeys() {
		c := with(good, func(c *claim) { c.key = key })
		wantRefused(t, "no key", c, api.ErrSize)
		wantRefused(t, "no key, and an inner proof not in form", with(c, func(c *claim) { c.inner = badInner }), api.ErrSize)
		wantRefused(t, "no key, and another root", with(c, otherRoot), api.ErrProof)
	}
	wantRefused(t, "an inner proof not in form", with(good, func(c *claim) { c.inner = badInner }), api.ErrForm)
	wantRefused(t, "an inner proof not in form, and another root", with(with(good, otherRoot), func(c *claim) { c.inner = badInner }), api.ErrProof)
	wantRefused(t, "an inner proof of a key elsewhere", with(good, func(c *claim) { c.key = []byte("kb") }), api.ErrForm)
	wantRefused(t, "no tenant, and an inner proof not in form", with(claimOf(t, three(), "q", "k"), func(c *claim) { c.inner = badInner }), api.ErrForm)
}

// P5.7: a name whose value is no root: the inner proof has nothing to hold against.
func TestVerifyOfANameWithoutARoot(t *testing.T) {
	for _, value := range []string{"", "1", string(make([]byte, 31))} {
		c := claimOver(t, of("a", value, "b", "2"), of("k", "1"), "a", "k")
		wantRefused(t, "no root", c, api.ErrSize)
		wantRefused(t, "no root, and an inner proof not in form", with(c, func(c *claim) { c.inner = api.Proof{} }), api.ErrSize)
		wantRefused(t, "no root, and no pairs", with(c, func(c *claim) { c.inner = api.Proof{Empty: true} }), api.ErrSize)
	}
	wantRefused(t, "another root", claimOver(t, of("a", string(make([]byte, 32))), of("k", "1"), "a", "k"), api.ErrProof)
}

// P5.7: proofs of one forest do not hold in another one.
func TestVerifyInAnotherForest(t *testing.T) {
	d := die(6)
	for range 500 {
		l, name, key := d.drawn()
		behind, e := Apply(l, writes(d.write()))
		if e != api.OK || sameTenants(l, behind) {
			continue
		}
		c := claimOf(t, l, string(name), string(key))
		c.root = mustRoot(t, behind)
		wantRefused(t, "another forest", c, api.ErrProof)
	}
}
