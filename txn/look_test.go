package txn

import (
	"bytes"
	"maps"
	"math"
	"slices"
	"testing"

	"canopy/api"
	"canopy/forest"
)

func commit(turn int, l ...api.Write) api.Commit { return api.Commit{Turn: turn, Writes: l} }

func commits(l ...api.Commit) []api.Commit { return l }

func of(texts ...string) []api.Pair {
	var out []api.Pair
	for i := 0; i < len(texts); i += 2 {
		out = append(out, api.Pair{Key: []byte(texts[i]), Value: []byte(texts[i+1])})
	}
	return out
}

func tenant(name string, texts ...string) api.Tenant {
	return api.Tenant{Name: []byte(name), Pairs: of(texts...)}
}

func tenants(l ...api.Tenant) []api.Tenant { return l }

func samePairs(a, b []api.Pair) bool {
	return slices.EqualFunc(a, b, func(a, b api.Pair) bool { return bytes.Equal(a.Key, b.Key) && bytes.Equal(a.Value, b.Value) })
}

// numbered: a tenant of so many pairs, with keys of one byte from 0 on.
func numbered(name string, n int) api.Tenant {
	t := tenant(name)
	for i := range n {
		t.Pairs = append(t.Pairs, of(string([]byte{byte(i)}), "old")...)
	}
	return t
}

func twoTenants() []api.Tenant {
	return tenants(tenant("a", "k", "1", "l", "2", "m", "3"), tenant("b", "k", "4"))
}

// P8.5: the transaction's own write, or what the forest has.
func TestLook(t *testing.T) {
	x := api.Txn{Start: 1, Reads: reads(one("a", "m")), Writes: writes(put("a", "k", "own"), gone("a", "l"), put("a", "n", ""), put("c", "k", "5"), gone("d", "k"), put("b", "kk", "6"))}
	for _, c := range []struct {
		name, key string
		found     bool
		value     string
		own       bool
	}{
		{"a", "k", true, "own", true},
		{"a", "l", false, "", true},
		{"a", "n", true, "", true},
		{"c", "k", true, "5", true},
		{"d", "k", false, "", true},
		{"b", "kk", true, "6", true},
		{"a", "m", true, "3", false},
		{"b", "k", true, "4", false},
		{"b", "l", false, "", false},
		{"a", "kk", false, "", false},
		{"c", "l", false, "", false},
		{"e", "k", false, "", false},
		{"ak", "k", false, "", false},
		{longName, longKey, false, "", false},
	} {
		got, own, e := Look(twoTenants(), x, []byte(c.name), []byte(c.key))
		if e != api.OK || got.Found != c.found || string(got.Value) != c.value || own != c.own {
			t.Errorf("%s of %s: %v, %v, %v, want %v", c.key, c.name, got, own, e, c)
		}
	}
	if got, own, e := Look(nil, api.Txn{}, []byte("a"), []byte("k")); got.Found || len(got.Value) > 0 || own || e != api.OK {
		t.Errorf("nothing at nothing: %v, %v, %v", got, own, e)
	}
}

// wrongForests: what forest's Check refuses.
func wrongForests() map[api.Errno][]api.Tenant {
	var many []api.Tenant
	for i := range api.MaxTenants + 1 {
		many = append(many, tenant(string([]byte{byte(i)}), "k", "1"))
	}
	return map[api.Errno][]api.Tenant{
		api.ErrSize:  many,
		api.ErrForm:  tenants(tenant("a")),
		api.ErrOrder: tenants(tenant("b", "k", "1"), tenant("a", "k", "1")),
	}
}

// P8.2, P8.5, P8.6: what is wrong with the tenants is told first, then what is wrong with the transaction, then the name and the keys.
func TestLookAndScanRefuse(t *testing.T) {
	good := api.Txn{Start: 1, Reads: goodReads(), Writes: goodWrites()}
	type text struct {
		b   string
		bad bool
	}
	names := []text{{"a", false}, {longName, false}, {"", true}, {longName + "n", true}}
	keys := []text{{"k", false}, {longKey, false}, {"", true}, {longKey + "k", true}}
	forests := wrongForests()
	forests[api.OK] = twoTenants()
	for forestE, l := range forests {
		for _, x := range []api.Txn{good, {}, {Start: -1}, {Reads: reads(oneLast("a", "k", "l"))}} {
			for _, name := range names {
				for _, key := range keys {
					want := forestE
					if want == api.OK {
						want = Check(x)
					}
					looks := want
					if looks == api.OK && (name.bad || key.bad) {
						looks = api.ErrSize
					}
					got, own, e := Look(l, x, []byte(name.b), []byte(key.b))
					if e != looks || e != api.OK && (got.Found || len(got.Value) > 0 || own) {
						t.Errorf("Look of %v at %q, %q: %v, %v, %v, want %v", x, name.b, key.b, got, own, e, looks)
					}
					for _, to := range keys {
						scans := looks
						if scans == api.OK && to.bad {
							scans = api.ErrSize
						}
						got, e := Scan(l, x, []byte(name.b), []byte(key.b), []byte(to.b))
						if e != scans || e != api.OK && len(got) > 0 {
							t.Errorf("Scan of %v at %q, %q, %q: %v, %v, want %v", x, name.b, key.b, to.b, got, e, scans)
						}
						back, e := Scan(l, x, []byte(name.b), []byte(to.b), []byte(key.b))
						if e != scans || e != api.OK && len(back) > 0 {
							t.Errorf("Scan of %v at %q, %q, %q: %v, %v, want %v", x, name.b, to.b, key.b, back, e, scans)
						}
					}
				}
			}
		}
	}
}

// P8.6: the forest's pairs, with the writes to that name and those keys.
func TestScan(t *testing.T) {
	some := writes(put("a", "k", "own"), gone("a", "l"), put("a", "lm", ""), put("b", "l", "x"), put("c", "k", "5"), gone("d", "k"), put("a", "a", "first"), put("a", "z", "last"))
	for _, c := range []struct {
		what           string
		ws             []api.Write
		name, from, to string
		want           []api.Pair
	}{
		{"no writes", nil, "a", "k", "m", of("k", "1", "l", "2", "m", "3")},
		{"no writes, one key", nil, "a", "l", "l", of("l", "2")},
		{"no writes, the wrong way round", nil, "a", "m", "k", nil},
		{"no writes, no tenant", nil, "c", "a", "z", nil},
		{"all", some, "a", "a", "z", of("a", "first", "k", "own", "lm", "", "m", "3", "z", "last")},
		{"its ends", some, "a", "k", "lm", of("k", "own", "lm", "")},
		{"within", some, "a", "kk", "ll", nil},
		{"behind the first one", some, "a", "a\x00", "m", of("k", "own", "lm", "", "m", "3")},
		{"up to ahead of one", some, "a", "k", "l\xff", of("k", "own", "lm", "")},
		{"one key, written", some, "a", "k", "k", of("k", "own")},
		{"one key, gone", some, "a", "l", "l", nil},
		{"the wrong way round", some, "a", "z", "a", nil},
		{"the wrong way round, a bit", some, "a", "l", "k", nil},
		{"another tenant", some, "b", "a", "z", of("k", "4", "l", "x")},
		{"a new tenant", some, "c", "a", "z", of("k", "5")},
		{"no tenant, gone", some, "d", "a", "z", nil},
		{"no tenant", some, "e", "a", "z", nil},
		{"all gone", writes(gone("b", "k")), "b", "\x00", "\xff", nil},
		{"not in order", writes(put("b", "z", "1"), put("b", "a", "2"), put("b", "m", "3")), "b", "a", "z", of("a", "2", "k", "4", "m", "3", "z", "1")},
	} {
		x := api.Txn{Start: 1, Reads: goodReads(), Writes: c.ws}
		if got, e := Scan(twoTenants(), x, []byte(c.name), []byte(c.from), []byte(c.to)); e != api.OK || !samePairs(got, c.want) {
			t.Errorf("%s: %v, %v, want %v", c.what, got, e, c.want)
		}
	}
}

// P8.6: there is room for MaxPairs pairs, of those that are scanned, on the way too.
func TestScanAtTheLimits(t *testing.T) {
	all, new1, new2 := numbered("a", api.MaxPairs), put("a", "x", "1"), put("a", "y", "2")
	less := numbered("a", api.MaxPairs-1)
	var tenNew []api.Write
	for i := range api.MaxWrites {
		tenNew = append(tenNew, put("a", string([]byte{'p', byte(i)}), "new"))
	}
	for _, c := range []struct {
		what     string
		one      api.Tenant
		ws       []api.Write
		from, to string
		pairs    int
		want     api.Errno
	}{
		{"full", all, nil, "\x00", "\xff", api.MaxPairs, api.OK},
		{"full, another value", all, writes(put("a", "\x00", "v")), "\x00", "\xff", api.MaxPairs, api.OK},
		{"the last one for which there is room", less, writes(new1), "\x00", "\xff", api.MaxPairs, api.OK},
		{"one too many", all, writes(new1), "\x00", "\xff", 0, api.ErrFull},
		{"one too many, the second", less, writes(new1, new2), "\x00", "\xff", 0, api.ErrFull},
		{"room is made ahead of it", all, writes(gone("a", "\x00"), new1), "\x00", "\xff", api.MaxPairs, api.OK},
		{"room is made behind it", all, writes(new1, gone("a", "\x00")), "\x00", "\xff", 0, api.ErrFull},
		{"nothing is gone ahead of it", all, writes(gone("a", "zz"), new1), "\x00", "\xff", 0, api.ErrFull},
		{"one too many, of another tenant", all, writes(put("b", "x", "1")), "\x00", "\xff", api.MaxPairs, api.OK},
		{"one too many, behind what is scanned", all, writes(new1), "\x00", "w", api.MaxPairs, api.OK},
		{"one too many of the tenant, not of what is scanned", all, writes(new1), "\x01", "\xff", api.MaxPairs, api.OK},
		{"just the new one", all, writes(new1), "x", "x", 1, api.OK},
		{"the wrong way round", all, writes(new1), "\xff", "\x00", 0, api.OK},
		{"ten new ones where there is room", numbered("a", api.MaxPairs-10), tenNew, "\x00", "\xff", api.MaxPairs, api.OK},
		{"ten new ones, nine of room", numbered("a", api.MaxPairs-9), tenNew, "\x00", "\xff", 0, api.ErrFull},
		{"ten new ones, ten are not scanned", all, tenNew, "\x0a", "\xff", api.MaxPairs, api.OK},
		{"ten new ones, nine are not scanned", all, tenNew, "\x09", "\xff", 0, api.ErrFull},
	} {
		got, e := Scan(tenants(c.one), api.Txn{Writes: c.ws}, []byte("a"), []byte(c.from), []byte(c.to))
		if e != c.want || len(got) != c.pairs {
			t.Errorf("%s: %d pairs, %v, want %d, %v", c.what, len(got), e, c.pairs, c.want)
		}
	}
}

// grove: a forest as maps.
type grove map[string]map[string]string

func (g grove) tenants() []api.Tenant {
	var l []api.Tenant
	for _, name := range slices.Sorted(maps.Keys(g)) {
		l = append(l, api.Tenant{Name: []byte(name), Pairs: g.pairs(name, "", "\xff\xff\xff")})
	}
	return l
}

// pairs of a name, neither ahead of from nor behind to.
func (g grove) pairs(name, from, to string) []api.Pair {
	var l []api.Pair
	for _, key := range slices.Sorted(maps.Keys(g[name])) {
		if from <= key && key <= to {
			l = append(l, of(key, g[name][key])...)
		}
	}
	return l
}

func (g grove) put(name, key, value string) {
	if g[name] == nil {
		g[name] = map[string]string{}
	}
	g[name][key] = value
}

func (g grove) write(w api.Write) {
	if w.Gone {
		delete(g[string(w.Name)], string(w.Key))
		return
	}
	g.put(string(w.Name), string(w.Key), string(w.Value))
}

func (g grove) copy() grove {
	out := grove{}
	for name, held := range g {
		out[name] = maps.Clone(held)
	}
	return out
}

// grove that looks drawn.
func (d *die) grove() grove {
	g := grove{}
	for range d.n(30) {
		if name := string(d.text()); g[name] != nil || len(g) < api.MaxTenants {
			g.put(name, string(d.text()), string(d.text()))
		}
	}
	return g
}

func wordedLook(g grove, x api.Txn, name, key string) (found bool, value string, own bool) {
	value, found = g[name][key]
	for _, w := range x.Writes {
		if string(w.Name) == name && string(w.Key) == key {
			return !w.Gone, string(w.Value), true
		}
	}
	return found, value, false
}

// P8.5, P8.6: as the chapter words it, in drawn forests and transactions.
func TestDrawnLooksAndScans(t *testing.T) {
	d := die(86)
	owns, scanned := 0, 0
	for range 1000 {
		g := d.grove()
		l, x := g.tenants(), d.txn(t, map[api.Errno]int{})
		behind := g.copy()
		for _, w := range x.Writes {
			behind.write(w)
		}
		for range 10 {
			name, key, to := d.text(), d.text(), d.text()
			found, value, wantOwn := wordedLook(g, x, string(name), string(key))
			got, own, e := Look(l, x, name, key)
			if e != api.OK || got.Found != found || string(got.Value) != value || own != wantOwn {
				t.Fatalf("Look at %v, %v, %q, %q: %v, %v, %v", l, x, name, key, got, own, e)
			}
			pairs, e := Scan(l, x, name, key, to)
			if want := behind.pairs(string(name), string(key), string(to)); e != api.OK || !samePairs(pairs, want) {
				t.Fatalf("Scan at %v, %v, %q, %q, %q: %v, %v, want %v", l, x, name, key, to, pairs, e, want)
			}
			if own {
				owns++
			}
			scanned += len(pairs)
		}
	}
	if owns < 500 || scanned < 500 {
		t.Errorf("%d writes of its own, %d pairs", owns, scanned)
	}
}

// P8.7: where a write meets what was read.
func TestClash(t *testing.T) {
	for _, c := range []struct {
		what string
		r    api.Read
		w    api.Write
		want bool
	}{
		{"the key", one("a", "k"), put("a", "k", "v"), true},
		{"the key, gone", one("a", "k"), gone("a", "k"), true},
		{"another key", one("a", "k"), put("a", "l", "v"), false},
		{"a longer key", one("a", "k"), put("a", "k\x00", "v"), false},
		{"a shorter key", one("a", "kk"), put("a", "k", "v"), false},
		{"another name", one("a", "k"), put("b", "k", "v"), false},
		{"a longer name", one("a", "k"), put("a\x00", "k", "v"), false},
		{"name and key as one text", one("ak", "k"), put("a", "kk", "v"), false},
		{"wide: the first key", wide("a", "k", "m"), put("a", "k", "v"), true},
		{"wide: the last key", wide("a", "k", "m"), gone("a", "m"), true},
		{"wide: between", wide("a", "k", "m"), put("a", "l", "v"), true},
		{"wide: just behind the first one", wide("a", "k", "m"), put("a", "k\x00", "v"), true},
		{"wide: just ahead of the first one", wide("a", "k", "m"), put("a", "j\xff\xff", "v"), false},
		{"wide: just behind the last one", wide("a", "k", "m"), put("a", "m\x00", "v"), false},
		{"wide: just ahead of the last one", wide("a", "k", "m"), put("a", "l\xff\xff", "v"), true},
		{"wide: another name", wide("a", "k", "m"), put("b", "l", "v"), false},
		{"wide: one key", wide("a", "k", "k"), put("a", "k", "v"), true},
		{"wide: not that key", wide("a", "k", "k"), put("a", "kk", "v"), false},
		{"wide, the wrong way round: between", wide("a", "m", "k"), put("a", "l", "v"), false},
		{"wide, the wrong way round: its first", wide("a", "m", "k"), put("a", "m", "v"), false},
		{"wide, the wrong way round: its last", wide("a", "m", "k"), put("a", "k", "v"), false},
		{"bytes, not signed", wide("a", "\x7f", "\xff"), put("a", "\x80", "v"), true},
		// the commits may be anything
		{"no key", wide("a", "\x00", "\xff"), put("a", "", "v"), false},
		{"a key that is none, within", wide("a", "a", "z"), put("a", longKey+"k", "v"), true},
		{"a key that is none", one("a", longKey), put("a", longKey+"k", "v"), false},
		{"no name", one("a", "k"), put("", "k", "v"), false},
		{"a name that is none", one(longName, "k"), put(longName+"n", "k", "v"), false},
		{"Gone with a value", one("a", "k"), gonePut("a", "k", "v"), true},
		{"a value that is too long", one("a", "k"), put("a", "k", longValue+"v"), true},
		{"nothing", one("a", "k"), api.Write{}, false},
	} {
		for _, turn := range []int{4, 5, math.MaxInt} {
			if got, e := Clash(api.Txn{Start: 3, Reads: reads(c.r)}, commits(commit(turn, c.w))); got != c.want || e != api.OK {
				t.Errorf("%s, turn %d: %v, %v", c.what, turn, got, e)
			}
		}
		for _, turn := range []int{3, 2, 0, -1, math.MinInt} {
			if got, e := Clash(api.Txn{Start: 3, Reads: reads(c.r)}, commits(commit(turn, c.w))); got || e != api.OK {
				t.Errorf("%s, turn %d: %v, %v", c.what, turn, got, e)
			}
		}
	}
}

// P8.7: any commit, any write, any read; what the transaction writes itself does not count.
func TestClashOfMany(t *testing.T) {
	hit, miss := put("a", "k", "v"), put("z", "z", "v")
	x := api.Txn{Start: 3, Reads: reads(one("b", "k"), wide("a", "j", "l"), one("c", "k")), Writes: writes(put("w", "k", "v"))}
	for _, c := range []struct {
		what string
		t    api.Txn
		l    []api.Commit
		want bool
	}{
		{"no commits", x, nil, false},
		{"no writes", x, commits(commit(4), commit(5)), false},
		{"none of them", x, commits(commit(4, miss), commit(5, miss, miss)), false},
		{"the first commit", x, commits(commit(4, hit), commit(5, miss)), true},
		{"the last commit", x, commits(commit(4, miss), commit(5, miss, hit)), true},
		{"the first write", x, commits(commit(4, hit, miss)), true},
		{"the last write", x, commits(commit(4, slices.Concat(slices.Repeat(writes(miss), 50), writes(hit))...)), true},
		{"too early, then too far", x, commits(commit(3, hit), commit(4, miss)), false},
		{"not by turns", x, commits(commit(9, miss), commit(3, hit), commit(4, hit)), true},
		{"a turn twice", x, commits(commit(4, miss), commit(4, hit)), true},
		{"a turn beyond all", x, commits(commit(api.MaxTurns+1, hit)), true},
		{"many", x, append(slices.Repeat(commits(commit(4, miss)), 2*api.MaxCommits), commit(4, hit)), true},
		{"the first read", x, commits(commit(4, gone("b", "k"))), true},
		{"the last read", x, commits(commit(4, gone("c", "k"))), true},
		{"what it writes", x, commits(commit(4, put("w", "k", "v"))), false},
		{"no reads", api.Txn{Writes: writes(hit)}, commits(commit(1, hit)), false},
		{"nothing", api.Txn{}, commits(commit(1, hit)), false},
		{"from the beginning", api.Txn{Reads: reads(one("a", "k"))}, commits(commit(1, hit)), true},
		{"from the last turn", api.Txn{Start: api.MaxTurns, Reads: reads(one("a", "k"))}, commits(commit(api.MaxTurns, hit)), false},
		{"behind the last turn", api.Txn{Start: api.MaxTurns, Reads: reads(one("a", "k"))}, commits(commit(api.MaxTurns+1, hit)), true},
	} {
		if got, e := Clash(c.t, c.l); got != c.want || e != api.OK {
			t.Errorf("%s: %v, %v", c.what, got, e)
		}
	}
}

func wordedClash(x api.Txn, l []api.Commit) bool {
	for _, c := range l {
		for _, w := range c.Writes {
			for _, r := range x.Reads {
				name, key, at := string(r.Name) == string(w.Name), string(r.Key), string(w.Key)
				inside := at == key
				if r.Wide {
					inside = !(at < key) && !(at > string(r.Last))
				}
				if c.Turn > x.Start && name && inside {
					return true
				}
			}
		}
	}
	return false
}

// P8.7: as the chapter words it; what comes of it: without a clash what was read is the same behind the commits.
func TestDrawnClashes(t *testing.T) {
	d := die(87)
	clashes := map[bool]int{}
	for range 3000 {
		g, x := d.grove(), api.Txn{Start: d.n(4)}
		for range d.n(8) {
			x, _ = Note(x, d.read())
		}
		var l []api.Commit
		behind := g.copy()
		for range d.n(4) {
			c := commit(d.n(8))
			for range d.n(6) {
				c.Writes = append(c.Writes, d.write())
			}
			if c.Turn > x.Start {
				for _, w := range c.Writes {
					behind.write(w)
				}
			}
			l = append(l, c)
		}
		got, e := Clash(x, l)
		if want := wordedClash(x, l); e != api.OK || got != want {
			t.Fatalf("Clash of %v with %v: %v, %v, want %v", x, l, got, e, want)
		}
		clashes[got]++
		if !got {
			wantSame(t, x, g, behind)
		}
	}
	if clashes[true] < 300 || clashes[false] < 300 {
		t.Errorf("clashes: %v", clashes)
	}
}

// wantSame: all that was read is the same in both.
func wantSame(t *testing.T, x api.Txn, a, b grove) {
	t.Helper()
	for _, r := range x.Reads {
		last := r.Key
		if r.Wide {
			last = r.Last
		}
		name, key, to := string(r.Name), string(r.Key), string(last)
		if !samePairs(a.pairs(name, key, to), b.pairs(name, key, to)) {
			t.Fatalf("%v meets no clash, but reads another thing", r)
		}
	}
}

// The example of the whole: who has read what another one has put in the meantime clashes, who has put it sees it.
func TestExampleOfTheWhole(t *testing.T) {
	own, e := Write(api.Txn{}, put("a", "k", "\x07"))
	if e != api.OK {
		t.Fatal(e)
	}
	if got, mine, e := Look(nil, own, []byte("a"), []byte("k")); e != api.OK || !got.Found || string(got.Value) != "\x07" || !mine {
		t.Errorf("own: %v, %v, %v", got, mine, e)
	}
	other, e := Note(api.Txn{}, one("a", "k"))
	if e != api.OK {
		t.Fatal(e)
	}
	now := commits(commit(1, own.Writes...))
	if clash, e := Clash(other, now); !clash || e != api.OK {
		t.Errorf("the other one: %v, %v", clash, e)
	}
	if clash, e := Clash(own, now); clash || e != api.OK {
		t.Errorf("the own one: %v, %v", clash, e)
	}
	f, e := forest.Apply(nil, own.Writes)
	if e != api.OK {
		t.Fatal(e)
	}
	if got, mine, e := Look(f, other, []byte("a"), []byte("k")); e != api.OK || !got.Found || mine {
		t.Errorf("behind that: %v, %v, %v", got, mine, e)
	}
}
