package forest

import (
	"slices"
	"strings"
	"testing"

	"canopy/api"
)

func put(name, key, value string) api.Write {
	return api.Write{Name: []byte(name), Key: []byte(key), Value: []byte(value)}
}

func gone(name, key string) api.Write {
	return api.Write{Name: []byte(name), Key: []byte(key), Gone: true}
}

func writes(l ...api.Write) []api.Write { return l }

func wantTenants(t *testing.T, what string, got []api.Tenant, e api.Errno, want []api.Tenant) {
	t.Helper()
	if e != api.OK || !sameTenants(got, want) {
		t.Errorf("%s: %v, %v, want %v", what, got, e, want)
	}
}

// P5.4: what writes make.
func TestApply(t *testing.T) {
	two := tenants(tenant("b", "k", "1", "m", "2"), tenant("d", "k", "3"))
	most, longKey := strings.Repeat("n", api.MaxName), strings.Repeat("k", api.MaxKey)
	for _, c := range []struct {
		what string
		l    []api.Tenant
		ws   []api.Write
		want []api.Tenant
	}{
		{"nothing at nothing", nil, nil, nil},
		{"nothing", two, nil, two},
		{"a first one", nil, writes(put("a", "k", "\x07")), tenants(tenant("a", "k", "\x07"))},
		{"no value", nil, writes(put("a", "k", "")), tenants(tenant("a", "k", ""))},
		{"the longest", nil, writes(put(most, longKey, strings.Repeat("v", api.MaxValue))), tenants(tenant(most, longKey, strings.Repeat("v", api.MaxValue)))},
		{"a new key ahead", two, writes(put("b", "a", "x")), tenants(tenant("b", "a", "x", "k", "1", "m", "2"), two[1])},
		{"a new key between", two, writes(put("b", "l", "x")), tenants(tenant("b", "k", "1", "l", "x", "m", "2"), two[1])},
		{"a new key behind", two, writes(put("d", "l", "x")), tenants(two[0], tenant("d", "k", "3", "l", "x"))},
		{"another value", two, writes(put("b", "k", "x")), tenants(tenant("b", "k", "x", "m", "2"), two[1])},
		{"a value no more", two, writes(put("d", "k", "")), tenants(two[0], tenant("d", "k", ""))},
		{"a new tenant ahead", two, writes(put("a", "k", "x")), tenants(tenant("a", "k", "x"), two[0], two[1])},
		{"a new tenant between", two, writes(put("bb", "k", "x")), tenants(two[0], tenant("bb", "k", "x"), two[1])},
		{"a new tenant behind", two, writes(put("da", "k", "x")), tenants(two[0], two[1], tenant("da", "k", "x"))},
		{"a key gone", two, writes(gone("b", "k")), tenants(tenant("b", "m", "2"), two[1])},
		{"a tenant gone", two, writes(gone("d", "k")), tenants(two[0])},
		{"a first tenant gone", two, writes(gone("b", "m"), gone("b", "k")), tenants(two[1])},
		{"all gone", two, writes(gone("b", "m"), gone("b", "k"), gone("d", "k")), nil},
		{"a key gone that was not there", two, writes(gone("b", "x")), two},
		{"a key gone of no tenant", two, writes(gone("c", "k")), two},
		{"a key gone of nothing", nil, writes(gone("c", "k")), nil},
		{"a Gone one with a list for a value", two, writes(api.Write{Name: []byte("d"), Key: []byte("k"), Gone: true, Value: []byte{}}), tenants(two[0])},
		{"twice", nil, writes(put("a", "k", "1"), put("a", "k", "2")), tenants(tenant("a", "k", "2"))},
		{"put, then gone", nil, writes(put("a", "k", "1"), gone("a", "k")), nil},
		{"gone, then put", two, writes(gone("d", "k"), put("d", "k", "x")), tenants(two[0], tenant("d", "k", "x"))},
		{"not in order", nil, writes(put("b", "l", "1"), put("a", "k", "2"), put("b", "k", "3")), tenants(tenant("a", "k", "2"), tenant("b", "k", "3", "l", "1"))},
	} {
		got, e := Apply(c.l, c.ws)
		wantTenants(t, c.what, got, e, c.want)
	}
}

// P5.4: there is room for what stays within the limits on the way, too.
func TestApplyAtTheLimits(t *testing.T) {
	l := full(api.MaxTenants)
	seven := slices.Clone(l[1:])
	less := slices.Clone(l)
	less[0].Pairs = less[0].Pairs[1:]
	one := tenants(tenant("a", "k", "v"))
	grown := full(api.MaxTenants - 1)
	for _, c := range []struct {
		what string
		l    []api.Tenant
		ws   []api.Write
		want []api.Tenant
	}{
		{"another value of a full tenant", l, writes(put("\x01", "\x00", "\x00")), l},
		{"gone from a full tenant", l, writes(gone("\x01", "\x00")), less},
		{"the last pair of a tenant", less, writes(put("\x01", "\x00", "\x00")), l},
		{"gone, then put", l, writes(gone("\x01", "\x00"), put("\x01", "\x00", "\x00")), l},
		{"a last tenant", grown, writes(put("z", "k", "v")), append(slices.Clone(grown), tenant("z", "k", "v"))},
		{"a tenant gone makes room", append(slices.Clone(one), seven...), writes(gone("a", "k"), put("b", "k", "v")), append(tenants(tenant("b", "k", "v")), seven...)},
		{"no tenant at full tenants", l, writes(gone("z", "k")), l},
	} {
		slices.SortFunc(c.l, byName)
		slices.SortFunc(c.want, byName)
		got, e := Apply(c.l, c.ws)
		wantTenants(t, c.what, got, e, c.want)
	}
	var ws []api.Write
	for i := range api.MaxWrites {
		ws = append(ws, put("a", string(rune('a'+i)), "v"))
	}
	if got, e := Apply(nil, ws); e != api.OK || len(got) != 1 || len(got[0].Pairs) != api.MaxWrites {
		t.Errorf("MaxWrites writes: %v, %v", got, e)
	}
}

func byName(a, b api.Tenant) int { return strings.Compare(string(a.Name), string(b.Name)) }

// P5.4: what is refused, and which error is named first; a write's error is told ahead of those behind it.
func TestApplyRefuses(t *testing.T) {
	long, longKey, wide := strings.Repeat("n", api.MaxName+1), strings.Repeat("k", api.MaxKey+1), strings.Repeat("v", api.MaxValue+1)
	gonePut := func(name, key, value string) api.Write {
		w := put(name, key, value)
		w.Gone = true
		return w
	}
	most, none := full(api.MaxTenants), []api.Tenant(nil)
	good := put("\x01", "\x00", "v")
	noRoom, noKey, withValue := put("z", "k", "v"), put("z", "", "v"), gonePut("z", "k", "v")
	for _, c := range []struct {
		what string
		l    []api.Tenant
		ws   []api.Write
		want api.Errno
	}{
		{"one write too many", none, slices.Repeat(writes(good), api.MaxWrites+1), api.ErrSize},
		{"too many, each of them wrong", most, slices.Repeat(writes(withValue), api.MaxWrites+1), api.ErrSize},
		{"no name", none, writes(put("", "k", "v")), api.ErrSize},
		{"a long name", none, writes(put(long, "k", "v")), api.ErrSize},
		{"nothing", none, writes(api.Write{}), api.ErrSize},
		{"no name, Gone with a value", none, writes(gonePut("", "k", "v")), api.ErrSize},
		{"a long name, Gone with a value", none, writes(gonePut(long, "k", "v")), api.ErrSize},
		{"a long name at full tenants", most, writes(put(long, "k", "v")), api.ErrSize},
		{"no key", none, writes(noKey), api.ErrSize},
		{"a long key", none, writes(put("a", longKey, "v")), api.ErrSize},
		{"a long value", none, writes(put("a", "k", wide)), api.ErrSize},
		{"no key at full tenants", most, writes(noKey), api.ErrSize},
		{"a long key of a full tenant", most, writes(put("\x01", longKey, "v")), api.ErrSize},
		{"a long value at full tenants", most, writes(put("z", "k", wide)), api.ErrSize},
		{"a long value of a full tenant", most, writes(put("\x01", "k", wide)), api.ErrSize},
		{"Gone, no key", none, writes(gone("a", "")), api.ErrSize},
		{"Gone, a long key", most, writes(gone("a", longKey)), api.ErrSize},
		{"Gone, no key, a value", most, writes(gonePut("a", "", "v")), api.ErrSize},
		{"Gone, a long key, a long value", most, writes(gonePut("a", longKey, wide)), api.ErrSize},
		{"Gone with a value", none, writes(withValue), api.ErrForm},
		{"Gone with a long value", none, writes(gonePut("a", "k", wide)), api.ErrForm},
		{"Gone with a value that is there", most, writes(gonePut("\x01", "\x00", "\x00")), api.ErrForm},
		{"Gone with a value at full tenants", most, writes(withValue), api.ErrForm},
		{"one pair too many", most, writes(put("\x01", "k", "v")), api.ErrFull},
		{"one tenant too many", most, writes(noRoom), api.ErrFull},
		{"one tenant too many, ahead", most, writes(put("\x00", "k", "v")), api.ErrFull},
		{"a pair too many behind another value", most, writes(good, put("\x01", "k", "v")), api.ErrFull},
		{"no room, then no key", most, writes(noRoom, noKey), api.ErrFull},
		{"no room, then Gone with a value", most, writes(noRoom, withValue), api.ErrFull},
		{"Gone with a value, then no room", most, writes(withValue, noRoom), api.ErrForm},
		{"Gone with a value, then no name", none, writes(withValue, put("", "k", "v")), api.ErrForm},
		{"no key, then Gone with a value", none, writes(noKey, withValue), api.ErrSize},
		{"wrong at the end", none, append(slices.Repeat(writes(good), api.MaxWrites-1), withValue), api.ErrForm},
		{"no room, though room is made behind it", most, append(writes(put("\x01", "k", "v")), gone("\x01", "\x00")), api.ErrFull},
	} {
		if got, e := Apply(c.l, c.ws); len(got) != 0 || e != c.want {
			t.Errorf("%s: %v, %v, want %v", c.what, got, e, c.want)
		}
	}
}

// wordedWrite to a forest in maps, as the chapter words it.
func wordedWrite(g grove, w api.Write) api.Errno {
	name, key, value := string(w.Name), string(w.Key), string(w.Value)
	noKey := len(key) == 0 || len(key) > api.MaxKey
	if len(name) == 0 || len(name) > api.MaxName {
		return api.ErrSize
	}
	if w.Gone {
		if noKey {
			return api.ErrSize
		}
		if value != "" {
			return api.ErrForm
		}
		g.remove(name, key)
		return api.OK
	}
	if len(value) > api.MaxValue || noKey {
		return api.ErrSize
	}
	g.put(name, key, value)
	if len(g[name]) > api.MaxPairs || len(g) > api.MaxTenants {
		return api.ErrFull
	}
	return api.OK
}

func (d *die) write() api.Write {
	w := api.Write{Name: d.name(), Key: d.key(), Gone: d.n(3) == 0}
	if !w.Gone {
		w.Value = d.bytes(d.n(4))
	}
	switch d.n(60) {
	case 0:
		w.Name = d.bytes(d.n(2) * 9)
	case 1:
		w.Key = d.bytes(d.n(2) * 17)
	case 2:
		w.Value = d.bytes(30 + d.n(5))
	}
	return w
}

// P5.4: as the chapter words it, write behind write, in drawn forests.
func TestApplyOfDrawnWrites(t *testing.T) {
	d := die(2)
	seen := map[api.Errno]int{}
	for range 3000 {
		g := d.grove()
		l := g.tenants()
		var ws []api.Write
		for range d.n(api.MaxWrites + 1) {
			ws = append(ws, d.write())
		}
		want := api.OK
		for _, w := range ws {
			if want == api.OK {
				want = wordedWrite(g, w)
			}
		}
		got, e := Apply(l, ws)
		seen[e]++
		if want != api.OK {
			g = nil
		}
		if e != want || !sameTenants(got, g.tenants()) {
			t.Fatalf("Apply of %v to %v: %v, %v, want %v, %v", ws, l, got, e, g.tenants(), want)
		}
		if e == api.OK && Check(got) != api.OK {
			t.Fatalf("Apply of %v to %v is no forest: %v", ws, l, got)
		}
	}
	for _, e := range []api.Errno{api.OK, api.ErrSize, api.ErrForm, api.ErrFull} {
		if seen[e] < 20 {
			t.Errorf("outcomes: %v", seen)
		}
	}
}
