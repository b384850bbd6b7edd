package forest

import (
	"bytes"
	"maps"
	"slices"
	"strings"
	"testing"

	"canopy/api"
	"canopy/tree"
)

// die: numbers that look drawn, the same each time.
type die uint64

func (d *die) n(most int) int {
	*d = *d*6364136223846793005 + 1442695040888963407
	return int(uint64(*d>>33) % uint64(most))
}

func (d *die) bytes(n int) []byte {
	b := make([]byte, n)
	for i := range b {
		b[i] = byte(d.n(256))
	}
	return b
}

// text: mostly of few bytes of few kinds, so that texts meet, and begin with one another.
func (d *die) text(most int) []byte {
	if d.n(9) == 0 {
		return d.bytes(1 + d.n(most))
	}
	text := make([]byte, 1+d.n(2))
	for i := range text {
		text[i] = []byte{0, 'a', 'b', 255}[d.n(4)]
	}
	return text
}

func (d *die) name() []byte { return d.text(api.MaxName) }

func (d *die) key() []byte { return d.text(api.MaxKey) }

// grove: a forest as maps.
type grove map[string]map[string]string

func (g grove) put(name, key, value string) {
	if g[name] == nil {
		g[name] = map[string]string{}
	}
	g[name][key] = value
}

func (g grove) remove(name, key string) {
	delete(g[name], key)
	if len(g[name]) == 0 {
		delete(g, name)
	}
}

func (g grove) tenants() []api.Tenant {
	var l []api.Tenant
	for _, name := range slices.Sorted(maps.Keys(g)) {
		l = append(l, api.Tenant{Name: []byte(name), Pairs: risen(g[name])})
	}
	return l
}

func (d *die) grove() grove {
	g := grove{}
	for range d.n(api.MaxTenants + 1) {
		name := string(d.name())
		for range 1 + d.n(9) {
			g.put(name, string(d.key()), string(d.bytes(d.n(4))))
		}
	}
	return g
}

func (d *die) forest() []api.Tenant { return d.grove().tenants() }

// drawn: a forest, a name and a key, which are in it every second time.
func (d *die) drawn() (l []api.Tenant, name, key []byte) {
	l, name, key = d.forest(), d.name(), d.key()
	if len(l) > 0 && d.n(4) != 0 {
		t := l[d.n(len(l))]
		name = t.Name
		if d.n(3) != 0 {
			key = t.Pairs[d.n(len(t.Pairs))].Key
		}
	}
	return l, name, key
}

// risen: the pairs of a map, by their keys.
func risen(held map[string]string) []api.Pair {
	var l []api.Pair
	for _, key := range slices.Sorted(maps.Keys(held)) {
		l = append(l, api.Pair{Key: []byte(key), Value: []byte(held[key])})
	}
	return l
}

// of: pairs of keys and values in turn.
func of(texts ...string) []api.Pair {
	var l []api.Pair
	for i := 0; i < len(texts); i += 2 {
		l = append(l, api.Pair{Key: []byte(texts[i]), Value: []byte(texts[i+1])})
	}
	return l
}

func tenant(name string, texts ...string) api.Tenant {
	return api.Tenant{Name: []byte(name), Pairs: of(texts...)}
}

func tenants(l ...api.Tenant) []api.Tenant { return l }

// counted: n pairs that rise.
func counted(n int) []api.Pair {
	var l []api.Pair
	for i := range n {
		l = append(l, api.Pair{Key: []byte{byte(2 * i)}, Value: []byte{byte(i)}})
	}
	return l
}

// full: n tenants that rise, each with as many pairs as it may have.
func full(n int) []api.Tenant {
	var l []api.Tenant
	for i := range n {
		l = append(l, api.Tenant{Name: []byte{byte(8*i + 1)}, Pairs: counted(api.MaxPairs)})
	}
	return l
}

// pairsNamed: the pairs of the tenant with a name, looked for one by one.
func pairsNamed(l []api.Tenant, name []byte) []api.Pair {
	for _, t := range l {
		if bytes.Equal(t.Name, name) {
			return t.Pairs
		}
	}
	return nil
}

func samePair(a, b api.Pair) bool { return bytes.Equal(a.Key, b.Key) && bytes.Equal(a.Value, b.Value) }

func samePairs(a, b []api.Pair) bool { return slices.EqualFunc(a, b, samePair) }

func sameTenants(a, b []api.Tenant) bool {
	return slices.EqualFunc(a, b, func(a, b api.Tenant) bool {
		return bytes.Equal(a.Name, b.Name) && samePairs(a.Pairs, b.Pairs)
	})
}

func sameFinding(a, b api.Finding) bool { return a.Found == b.Found && bytes.Equal(a.Value, b.Value) }

func noNames() [][]byte {
	return [][]byte{nil, {}, make([]byte, api.MaxName+1), make([]byte, api.MaxKey), make([]byte, 300)}
}

func noKeys() [][]byte {
	return [][]byte{nil, {}, make([]byte, api.MaxKey+1), make([]byte, 300)}
}

// P5.1
func TestName(t *testing.T) {
	for n := range 300 {
		want := api.OK
		if n < 1 || n > 8 {
			want = api.ErrSize
		}
		if e := Name(make([]byte, n)); e != want {
			t.Errorf("a name of %d bytes: %v, want %v", n, e, want)
		}
	}
	if e := Name(nil); e != api.ErrSize {
		t.Errorf("no name: %v", e)
	}
}

// P5.2: what is a forest.
func TestCheck(t *testing.T) {
	most, long := strings.Repeat("n", api.MaxName), strings.Repeat("k", api.MaxKey)
	for what, l := range map[string][]api.Tenant{
		"nothing":               nil,
		"no tenants":            {},
		"one":                   {tenant("a", "k", "v")},
		"no value":              {tenant("a", "k", "")},
		"the longest":           {tenant(most, long, strings.Repeat("v", api.MaxValue))},
		"a longer one behind":   {tenant("a", "k", ""), tenant("aa", "k", ""), tenant("b", "k", "")},
		"a nought behind":       {tenant("a", "k", ""), tenant("a\x00", "k", "")},
		"bytes without signs":   {tenant("\x00", "k", ""), tenant("\x7f", "k", ""), tenant("\x80", "k", ""), tenant("\xff", "k", "")},
		"as much as there may":  full(api.MaxTenants),
		"keys need not go on":   {tenant("a", "y", "", "z", ""), tenant("b", "a", "")},
		"the same pairs, twice": {tenant("a", "k", "v"), tenant("b", "k", "v")},
	} {
		if e := Check(l); e != api.OK {
			t.Errorf("%s: %v", what, e)
		}
	}
}

type wrongForest struct {
	what string
	l    []api.Tenant
	want api.Errno
}

// wrongForests: what is none, and which error is named first.
func wrongForests() []wrongForest {
	long, longKey, wide := strings.Repeat("n", api.MaxName+1), strings.Repeat("k", api.MaxKey+1), strings.Repeat("v", api.MaxValue+1)
	good, bare := tenant("m", "k", "v"), tenant("m")
	tooMany := api.Tenant{Name: []byte("m"), Pairs: counted(api.MaxPairs + 1)}
	return []wrongForest{
		{"one tenant too many", full(api.MaxTenants + 1), api.ErrSize},
		{"too many that have nothing", append(tenants(bare), full(api.MaxTenants)...), api.ErrSize},
		{"too many, falling", append(tenants(tenant("\xff", "k", "v")), full(api.MaxTenants)...), api.ErrSize},
		{"no name", tenants(tenant("", "k", "v")), api.ErrSize},
		{"a long name", tenants(tenant(long, "k", "v")), api.ErrSize},
		{"a long name at the end", append(full(api.MaxTenants-1), tenant(strings.Repeat("\xff", 9), "k", "v")), api.ErrSize},
		{"no name and no pairs", tenants(tenant("")), api.ErrSize},
		{"no name, and pairs that fall", tenants(tenant("", "b", "", "a", "")), api.ErrSize},
		{"no pairs", tenants(bare), api.ErrForm},
		{"no pairs, but a list", tenants(api.Tenant{Name: []byte("m"), Pairs: []api.Pair{}}), api.ErrForm},
		{"no pairs behind others", tenants(tenant("a", "k", ""), bare), api.ErrForm},
		{"no pairs, falling", tenants(tenant("z", "k", ""), bare), api.ErrForm},
		{"no pairs, twice", tenants(good, bare), api.ErrForm},
		{"one pair too many", tenants(tooMany), api.ErrSize},
		{"one pair too many, falling", tenants(tenant("z", "k", ""), tooMany), api.ErrSize},
		{"no key", tenants(tenant("m", "", "v")), api.ErrSize},
		{"a long key", tenants(tenant("m", longKey, "v")), api.ErrSize},
		{"a long value", tenants(tenant("m", "k", wide)), api.ErrSize},
		{"a long value, falling", tenants(tenant("z", "k", ""), tenant("m", "k", wide)), api.ErrSize},
		{"pairs that fall", tenants(tenant("m", "b", "", "a", "")), api.ErrOrder},
		{"a key twice", tenants(tenant("m", "a", "1", "a", "2")), api.ErrOrder},
		{"falling", tenants(tenant("b", "k", ""), tenant("a", "k", "")), api.ErrOrder},
		{"falling at the end", append(full(api.MaxTenants-1), tenant("\x00", "k", "v")), api.ErrOrder},
		{"twice", tenants(good, good), api.ErrOrder},
		{"a longer one ahead", tenants(tenant("aa", "k", ""), tenant("a", "k", "")), api.ErrOrder},
		{"falling, then no name", tenants(tenant("b", "k", ""), tenant("a", "k", ""), tenant("", "k", "")), api.ErrOrder},
		{"falling, then no pairs", tenants(tenant("b", "k", ""), tenant("a", "k", ""), bare), api.ErrOrder},
		{"no pairs, then falling", tenants(bare, tenant("a", "k", "")), api.ErrForm},
		{"pairs that fall, then no name", tenants(tenant("m", "b", "", "a", ""), tenant("", "k", "")), api.ErrOrder},
		{"a long value, then no pairs", tenants(tenant("a", "k", wide), bare), api.ErrSize},
	}
}

// P5.2: what is no forest is refused; the other calls refuse it with the same error, whatever the rest is.
func TestWrongForests(t *testing.T) {
	names := append(noNames(), []byte("m"), []byte("q"))
	keys := append(noKeys(), []byte("k"))
	tooMany := slices.Repeat([]api.Write{{Name: []byte("m"), Key: []byte("k")}}, api.MaxWrites+1)
	for _, c := range wrongForests() {
		if e := Check(c.l); e != c.want {
			t.Errorf("Check of %s: %v, want %v", c.what, e, c.want)
		}
		if got, e := Root(c.l); len(got) != 0 || e != c.want {
			t.Errorf("Root of %s: %v, %v, want %v", c.what, got, e, c.want)
		}
		for _, ws := range [][]api.Write{nil, tooMany[:1], tooMany, {{}}} {
			if got, e := Apply(c.l, ws); len(got) != 0 || e != c.want {
				t.Errorf("Apply to %s: %v, %v, want %v", c.what, got, e, c.want)
			}
		}
		for _, name := range names {
			for _, key := range keys {
				if got, e := Get(c.l, name, key); !sameFinding(got, api.Finding{}) || e != c.want {
					t.Errorf("Get of %s: %v, %v, want %v", c.what, got, e, c.want)
				}
				if got, e := Range(c.l, name, key, key); len(got) != 0 || e != c.want {
					t.Errorf("Range of %s: %v, %v, want %v", c.what, got, e, c.want)
				}
				if outer, inner, e := Prove(c.l, name, key); !isZero(outer) || !isZero(inner) || e != c.want {
					t.Errorf("Prove of %s: %v, %v, %v, want %v", c.what, outer, inner, e, c.want)
				}
			}
		}
	}
}

// P5.3
func TestGet(t *testing.T) {
	l := tenants(tenant("a", "k", "1", "l", ""), tenant("aa", "k", "2"), tenant("b", "m", "3"))
	for _, c := range []struct {
		name, key string
		want      api.Finding
	}{
		{"a", "k", api.Finding{Found: true, Value: []byte("1")}},
		{"a", "l", api.Finding{Found: true}},
		{"a", "m", api.Finding{}},
		{"aa", "k", api.Finding{Found: true, Value: []byte("2")}},
		{"aa", "l", api.Finding{}},
		{"b", "m", api.Finding{Found: true, Value: []byte("3")}},
		{"b", "k", api.Finding{}},
		{"A", "k", api.Finding{}},
		{"ab", "k", api.Finding{}},
		{"c", "k", api.Finding{}},
	} {
		if got, e := Get(l, []byte(c.name), []byte(c.key)); e != api.OK || !sameFinding(got, c.want) {
			t.Errorf("Get of %q at %q: %v, %v, want %v", c.key, c.name, got, e, c.want)
		}
	}
}

// P5.3
func TestRange(t *testing.T) {
	l := tenants(tenant("a", "k", "1", "l", "", "m", "4"), tenant("b", "k", "2", "l", "3"))
	for _, c := range []struct {
		name, from, to string
		want           []api.Pair
	}{
		{"a", "k", "m", of("k", "1", "l", "", "m", "4")},
		{"a", "l", "z", of("l", "", "m", "4")},
		{"a", "k", "k", of("k", "1")},
		{"a", "m", "k", nil},
		{"b", "a", "k", of("k", "2")},
		{"b", "m", "z", nil},
		{"c", "a", "z", nil},
		{"0", "a", "z", nil},
	} {
		if got, e := Range(l, []byte(c.name), []byte(c.from), []byte(c.to)); e != api.OK || !samePairs(got, c.want) {
			t.Errorf("Range from %q to %q at %q: %v, %v, want %v", c.from, c.to, c.name, got, e, c.want)
		}
	}
}

// P5.3: as the chapter words it, in drawn forests.
func TestGetAndRangeInDrawnForests(t *testing.T) {
	d := die(1)
	for range 2000 {
		l, name, key := d.drawn()
		pairs, to := pairsNamed(l, name), d.key()
		want, _ := tree.Get(pairs, key)
		if got, e := Get(l, name, key); e != api.OK || !sameFinding(got, want) {
			t.Fatalf("Get of %q at %q in %v: %v, %v, want %v", key, name, l, got, e, want)
		}
		between, _ := tree.Range(pairs, key, to)
		if got, e := Range(l, name, key, to); e != api.OK || !samePairs(got, between) {
			t.Fatalf("Range from %q to %q at %q in %v: %v, %v, want %v", key, to, name, l, got, e, between)
		}
	}
}

// P5.2, P5.3, P5.6: names that may not be, and keys that are none, whether or not there is such a tenant.
func TestWrongNamesAndKeys(t *testing.T) {
	name, key := []byte("a"), []byte("k")
	most := bytes.Repeat([]byte{1}, api.MaxKey)
	refused := func(l []api.Tenant, name, from, to []byte) {
		t.Helper()
		if got, e := Range(l, name, from, to); len(got) != 0 || e != api.ErrSize {
			t.Errorf("Range from %v to %v at %v: %v, %v", from, to, name, got, e)
		}
		if Name(name) == api.OK && len(from) > 0 && len(from) <= api.MaxKey {
			return
		}
		if got, e := Get(l, name, from); !sameFinding(got, api.Finding{}) || e != api.ErrSize {
			t.Errorf("Get of %v at %v: %v, %v", from, name, got, e)
		}
		if outer, inner, e := Prove(l, name, from); !isZero(outer) || !isZero(inner) || e != api.ErrSize {
			t.Errorf("Prove of %v at %v: %v, %v, %v", from, name, outer, inner, e)
		}
	}
	for _, l := range [][]api.Tenant{nil, tenants(tenant("a", "k", "v")), tenants(tenant("b", "k", "v")), full(api.MaxTenants)} {
		for _, wrong := range noNames() {
			refused(l, wrong, key, key)
		}
		for _, wrong := range noKeys() {
			refused(l, name, wrong, key)
			refused(l, name, key, wrong)
			refused(l, nil, wrong, wrong)
		}
		if _, e := Get(l, most[:api.MaxName], most); e != api.OK {
			t.Errorf("Get with the longest name and key: %v", e)
		}
		if _, e := Range(l, most[:api.MaxName], most, most); e != api.OK {
			t.Errorf("Range with the longest name and keys: %v", e)
		}
	}
}
