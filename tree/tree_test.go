package tree

import (
	"bytes"
	"slices"
	"strings"
	"testing"

	"canopy/api"
)

// die: numbers that look drawn, the same each time.
type die uint64

func (d *die) n(most int) int {
	*d = *d*6364136223846793005 + 1442695040888963407
	return int(uint64(*d>>33) % uint64(most))
}

func (d *die) bytes(n int) []byte {
	b := make([]byte, n)
	for i := range b {
		b[i] = byte(d.n(256))
	}
	return b
}

// key: mostly of few bytes of few kinds, so that keys meet, and begin with one another.
func (d *die) key() []byte {
	if d.n(5) == 0 {
		return d.bytes(1 + d.n(api.MaxKey))
	}
	key := make([]byte, 1+d.n(3))
	for i := range key {
		key[i] = []byte{0, 1, 'a', 'b', 255}[d.n(5)]
	}
	return key
}

func (d *die) tree() []api.Pair {
	held := map[string]string{}
	for range d.n(20) {
		held[string(d.key())] = string(d.bytes(d.n(5)))
	}
	return risen(held)
}

// risen: the pairs of a map, by their keys.
func risen(held map[string]string) []api.Pair {
	var l []api.Pair
	for key, value := range held {
		l = append(l, api.Pair{Key: []byte(key), Value: []byte(value)})
	}
	slices.SortFunc(l, func(a, b api.Pair) int { return strings.Compare(string(a.Key), string(b.Key)) })
	return l
}

// heldBy: the pairs as a map, against which the calls are held.
func heldBy(l []api.Pair) map[string]string {
	held := map[string]string{}
	for _, p := range l {
		held[string(p.Key)] = string(p.Value)
	}
	return held
}

// counted: n pairs that rise, each with a key of one byte, from 0 on by two.
func counted(n int) []api.Pair {
	var l []api.Pair
	for i := range n {
		l = append(l, api.Pair{Key: []byte{byte(2 * i)}, Value: []byte{byte(i)}})
	}
	return l
}

// of: pairs of keys and values in turn.
func of(texts ...string) []api.Pair {
	var l []api.Pair
	for i := 0; i < len(texts); i += 2 {
		l = append(l, api.Pair{Key: []byte(texts[i]), Value: []byte(texts[i+1])})
	}
	return l
}

func same(a, b []api.Pair) bool {
	return slices.EqualFunc(a, b, func(p, q api.Pair) bool {
		return bytes.Equal(p.Key, q.Key) && bytes.Equal(p.Value, q.Value)
	})
}

func wantPairs(t *testing.T, what string, got []api.Pair, e api.Errno, want []api.Pair) {
	t.Helper()
	if e != api.OK || !same(got, want) {
		t.Errorf("%s: %v, %v, want %v", what, got, e, want)
	}
}

// wrongTrees: pairs that are no tree, and how they are refused.
func wrongTrees() []struct {
	what string
	l    []api.Pair
	want api.Errno
} {
	long, wide := strings.Repeat("k", api.MaxKey+1), strings.Repeat("v", api.MaxValue+1)
	fallen := counted(api.MaxPairs + 1)
	slices.Reverse(fallen)
	return []struct {
		what string
		l    []api.Pair
		want api.Errno
	}{
		{"one pair too many", counted(api.MaxPairs + 1), api.ErrSize},
		{"many pairs too many", make([]api.Pair, 100000), api.ErrSize},
		{"too many that fall", fallen, api.ErrSize},
		{"no key", of("", "v"), api.ErrSize},
		{"no key and no value", make([]api.Pair, 1), api.ErrSize},
		{"no key behind one", of("a", "v", "", "v"), api.ErrSize},
		{"a long key", of(long, ""), api.ErrSize},
		{"a long value", of("a", wide), api.ErrSize},
		{"a long value behind others", of("a", "", "b", "", "c", wide), api.ErrSize},
		{"falling", of("b", "", "a", ""), api.ErrOrder},
		{"falling late", of("a", "", "b", "", "d", "", "c", ""), api.ErrOrder},
		{"twice", of("a", "1", "a", "2"), api.ErrOrder},
		{"twice, with others between", of("a", "1", "b", "", "a", "2"), api.ErrOrder},
		{"a longer one ahead", of("ab", "", "a", ""), api.ErrOrder},
		{"high bytes ahead", of("\x80", "", "\x7f", ""), api.ErrOrder},
		{"length is not what counts", of("b", "", "aa", ""), api.ErrOrder},
		{"falling, then a long value", of("b", "", "a", "", "c", wide), api.ErrOrder},
		{"falling, then no key", of("b", "", "a", "", "", ""), api.ErrOrder},
		{"a long value, then falling", of("b", wide, "a", ""), api.ErrSize},
		{"a long value where it falls", of("b", "", "a", wide), api.ErrSize},
		{"a long key where it falls", of("z", "", long, ""), api.ErrSize},
	}
}

// P3.1: what is a tree.
func TestCheck(t *testing.T) {
	most := strings.Repeat("\xff", api.MaxKey)
	for _, l := range [][]api.Pair{
		nil, {}, of("a", ""), of("a", "1", "b", "1"), of("a", "", "aa", "", "ab", "", "b", ""),
		of("\x00", "", "\x00\x00", "", "\x01", ""), of("\x7f", "", "\x80", ""), of("aa", "", "b", ""),
		of(most[1:], "", most, strings.Repeat("v", api.MaxValue)), counted(api.MaxPairs),
	} {
		if e := Check(l); e != api.OK {
			t.Errorf("Check of %v: %v", l, e)
		}
	}
	for _, c := range wrongTrees() {
		if e := Check(c.l); e != c.want {
			t.Errorf("%s: %v, want %v", c.what, e, c.want)
		}
	}
}

// P3.1: each call refuses what is no tree, whatever else it is handed.
func TestWrongTreesAreRefused(t *testing.T) {
	for _, c := range wrongTrees() {
		for _, key := range [][]byte{[]byte("a"), nil, make([]byte, api.MaxKey+1)} {
			if got, e := Get(c.l, key); got.Found || len(got.Value) != 0 || e != c.want {
				t.Errorf("Get, %s: %v, %v, want %v", c.what, got, e, c.want)
			}
			if got, e := Put(c.l, api.Pair{Key: key}); len(got) != 0 || e != c.want {
				t.Errorf("Put, %s: %v, %v, want %v", c.what, got, e, c.want)
			}
			if got, e := Delete(c.l, key); len(got) != 0 || e != c.want {
				t.Errorf("Delete, %s: %v, %v, want %v", c.what, got, e, c.want)
			}
			if got, e := Range(c.l, key, key); len(got) != 0 || e != c.want {
				t.Errorf("Range, %s: %v, %v, want %v", c.what, got, e, c.want)
			}
		}
		if got, e := Root(c.l); len(got) != 0 || e != c.want {
			t.Errorf("Root, %s: %x, %v, want %v", c.what, got, e, c.want)
		}
	}
}

// P3.1: of a tree, ErrSize for what is no key; with a tree that is full, too.
func TestNoKeysAreRefused(t *testing.T) {
	good := []byte("a")
	for _, l := range [][]api.Pair{nil, of("a", "1"), counted(api.MaxPairs)} {
		for _, no := range [][]byte{nil, {}, make([]byte, api.MaxKey+1), make([]byte, 1000)} {
			if got, e := Get(l, no); got.Found || len(got.Value) != 0 || e != api.ErrSize {
				t.Errorf("Get of %d bytes: %v, %v", len(no), got, e)
			}
			if got, e := Put(l, api.Pair{Key: no, Value: []byte{1}}); len(got) != 0 || e != api.ErrSize {
				t.Errorf("Put of %d bytes: %v, %v", len(no), got, e)
			}
			if got, e := Delete(l, no); len(got) != 0 || e != api.ErrSize {
				t.Errorf("Delete of %d bytes: %v, %v", len(no), got, e)
			}
			for _, ends := range [3][2][]byte{{no, good}, {good, no}, {no, no}} {
				if got, e := Range(l, ends[0], ends[1]); len(got) != 0 || e != api.ErrSize {
					t.Errorf("Range from %d to %d bytes: %v, %v", len(ends[0]), len(ends[1]), got, e)
				}
			}
		}
	}
}

// P3.2: ordinary keys, values without bytes, and keys that are nearly there.
func TestGet(t *testing.T) {
	l := of("a", "1", "ab", "", "b", "22", "\xff", "3")
	for _, c := range []struct {
		key, value string
		found      bool
	}{
		{"a", "1", true}, {"ab", "", true}, {"b", "22", true}, {"\xff", "3", true},
		{"A", "", false}, {"a\x00", "", false}, {"abc", "", false}, {"ac", "", false}, {"\x00", "", false}, {"\xff\x00", "", false},
	} {
		if got, e := Get(l, []byte(c.key)); e != api.OK || got.Found != c.found || string(got.Value) != c.value {
			t.Errorf("Get of %q: %v, %v", c.key, got, e)
		}
	}
	if got, e := Get(nil, []byte("a")); e != api.OK || got.Found || len(got.Value) != 0 {
		t.Errorf("Get of no pairs: %v, %v", got, e)
	}
	full := counted(api.MaxPairs)
	for i := range 2 * api.MaxPairs {
		got, e := Get(full, []byte{byte(i)})
		if e != api.OK || got.Found != (i%2 == 0) || got.Found && !bytes.Equal(got.Value, []byte{byte(i / 2)}) {
			t.Errorf("Get of %d: %v, %v", i, got, e)
		}
	}
}

// P3.3: ahead, between, behind, and in place of another one.
func TestPut(t *testing.T) {
	l := of("b", "1", "d", "2")
	for _, c := range []struct {
		key  string
		want []api.Pair
	}{
		{"a", of("a", "9", "b", "1", "d", "2")},
		{"c", of("b", "1", "c", "9", "d", "2")},
		{"e", of("b", "1", "d", "2", "e", "9")},
		{"b", of("b", "9", "d", "2")},
		{"d", of("b", "1", "d", "9")},
		{"b\x00", of("b", "1", "b\x00", "9", "d", "2")},
	} {
		got, e := Put(l, api.Pair{Key: []byte(c.key), Value: []byte("9")})
		wantPairs(t, "Put of "+c.key, got, e, c.want)
	}
	got, e := Put(nil, api.Pair{Key: []byte("a")})
	wantPairs(t, "Put into no pairs", got, e, of("a", ""))
	got, e = Put(l, api.Pair{Key: []byte("b")})
	wantPairs(t, "Put without a value", got, e, of("b", "", "d", "2"))
}

// P3.1, P3.3: values of MaxValue bytes, and of more; a wrong value is told ahead of a tree that is full.
func TestPutOfLongValues(t *testing.T) {
	most := strings.Repeat("v", api.MaxValue)
	got, e := Put(of("a", "1"), api.Pair{Key: []byte("a"), Value: []byte(most)})
	wantPairs(t, "Put of a value of MaxValue bytes", got, e, of("a", most))
	for _, l := range [][]api.Pair{nil, of("a", "1"), counted(api.MaxPairs)} {
		got, e := Put(l, api.Pair{Key: []byte("a"), Value: []byte(most + "v")})
		if len(got) != 0 || e != api.ErrSize {
			t.Errorf("Put of a long value: %v, %v", got, e)
		}
	}
}

// P3.3: a tree that is full takes a pair in place of another one, and no more.
func TestPutIntoFull(t *testing.T) {
	full := counted(api.MaxPairs)
	for i := range 2*api.MaxPairs + 1 {
		got, e := Put(full, api.Pair{Key: []byte{byte(i)}, Value: []byte("new")})
		if i%2 == 1 || i == 2*api.MaxPairs {
			if len(got) != 0 || e != api.ErrFull {
				t.Errorf("Put of %d: %d pairs, %v, want %v", i, len(got), e, api.ErrFull)
			}
			continue
		}
		want := counted(api.MaxPairs)
		want[i/2].Value = []byte("new")
		wantPairs(t, "Put in place", got, e, want)
	}
	got, e := Put(counted(api.MaxPairs-1), api.Pair{Key: []byte{255}})
	wantPairs(t, "Put as the last one", got, e, append(counted(api.MaxPairs-1), of("\xff", "")...))
}

// P3.4: the first one, the last one, the only one, and one that is not there.
func TestDelete(t *testing.T) {
	l := of("a", "1", "ab", "2", "b", "3")
	for _, c := range []struct {
		key  string
		want []api.Pair
	}{
		{"a", of("ab", "2", "b", "3")}, {"ab", of("a", "1", "b", "3")}, {"b", of("a", "1", "ab", "2")},
		{"A", l}, {"aa", l}, {"abc", l}, {"c", l},
	} {
		got, e := Delete(l, []byte(c.key))
		wantPairs(t, "Delete of "+c.key, got, e, c.want)
	}
	got, e := Delete(of("a", "1"), []byte("a"))
	wantPairs(t, "Delete of the only one", got, e, nil)
	got, e = Delete(nil, []byte("a"))
	wantPairs(t, "Delete of none", got, e, nil)
	got, e = Delete(counted(api.MaxPairs), []byte{1})
	wantPairs(t, "Delete of one that is not there", got, e, counted(api.MaxPairs))
}

// P3.5: both ends belong to it; the wrong way round there are none.
func TestRange(t *testing.T) {
	l := of("b", "1", "bb", "2", "d", "3", "f", "4")
	for _, c := range []struct {
		from, to string
		want     []api.Pair
	}{
		{"a", "z", l}, {"b", "f", l}, {"b", "b", l[:1]}, {"f", "f", l[3:]}, {"bb", "d", l[1:3]},
		{"b\x00", "d", l[1:3]}, {"b\x00", "c", l[1:2]}, {"c", "c", nil}, {"c", "cz", nil}, {"a", "a", nil}, {"g", "z", nil},
		{"f", "b", nil}, {"z", "a", nil}, {"d", "c", nil}, {"e", "bb", nil}, {"d", "bb", nil},
	} {
		got, e := Range(l, []byte(c.from), []byte(c.to))
		wantPairs(t, "Range from "+c.from+" to "+c.to, got, e, c.want)
	}
	got, e := Range(nil, []byte("a"), []byte("z"))
	wantPairs(t, "Range of no pairs", got, e, nil)
}

// P3.2 to P3.5: drawn trees, held against maps.
func TestDrawnTrees(t *testing.T) {
	d := die(1)
	for range 3000 {
		l, key, other, value := d.tree(), d.key(), d.key(), d.bytes(d.n(4))
		if len(l) > 0 && d.n(2) == 0 {
			key = l[d.n(len(l))].Key
		}
		held := heldBy(l)
		found, e := Get(l, key)
		want, ok := held[string(key)]
		if e != api.OK || found.Found != ok || string(found.Value) != want {
			t.Errorf("Get of %v in %v: %v, %v", key, l, found, e)
		}
		for _, p := range l {
			if string(p.Key) < string(key) || string(p.Key) > string(other) {
				delete(held, string(p.Key))
			}
		}
		got, e := Range(l, key, other)
		wantPairs(t, "Range", got, e, risen(held))
		held = heldBy(l)
		held[string(key)] = string(value)
		got, e = Put(l, api.Pair{Key: key, Value: value})
		wantPairs(t, "Put", got, e, risen(held))
		delete(held, string(key))
		got, e = Delete(l, key)
		wantPairs(t, "Delete", got, e, risen(held))
	}
}
