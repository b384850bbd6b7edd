package tree

import (
	"bytes"
	"encoding/hex"
	"slices"
	"strings"
	"testing"

	"canopy/api"
	"canopy/digest"
	"canopy/path"
)

func parts(t *testing.T, kind byte, l ...[]byte) []byte {
	t.Helper()
	d, e := digest.Parts(kind, l...)
	if e != api.OK {
		t.Fatal(e)
	}
	return d
}

// wordedRoot: as the chapter words it: each two pairs are held against each other, and the sides are picked pair by pair.
func wordedRoot(t *testing.T, l []api.Pair) []byte {
	t.Helper()
	if len(l) == 0 {
		return parts(t, 0)
	}
	if len(l) == 1 {
		return parts(t, 1, l[0].Key, l[0].Value)
	}
	least := api.MaxPath
	for i, p := range l {
		for _, q := range l[:i] {
			at, e := path.Part(p.Key, q.Key)
			if e != api.OK {
				t.Fatal(e)
			}
			least = min(least, at)
		}
	}
	var sides [2][]api.Pair
	for _, p := range l {
		one, e := path.Bit(p.Key, least)
		if e != api.OK {
			t.Fatal(e)
		}
		if one {
			sides[1] = append(sides[1], p)
		} else {
			sides[0] = append(sides[0], p)
		}
	}
	return parts(t, 2, []byte{byte(least)}, wordedRoot(t, sides[0]), wordedRoot(t, sides[1]))
}

func wantRoot(t *testing.T, l []api.Pair) {
	t.Helper()
	got, e := Root(l)
	if want := wordedRoot(t, l); e != api.OK || !bytes.Equal(got, want) {
		t.Errorf("Root of %v: %x, %v, want %x", l, got, e, want)
	}
}

// P3.6: roots that were worked out by another program.
func TestRoot(t *testing.T) {
	long := "abcdefghijklmno"
	var sixty []api.Pair
	for i := range byte(api.MaxPairs) {
		sixty = append(sixty, api.Pair{Key: []byte{i}, Value: []byte{i, i}})
	}
	for _, c := range []struct {
		l    []api.Pair
		want string
	}{
		{nil, "5d53469f20fef4f8eab52b88044ede69c77a6a68a60728609fc4a65ff531e7d0"},
		{[]api.Pair{}, "5d53469f20fef4f8eab52b88044ede69c77a6a68a60728609fc4a65ff531e7d0"},
		{of("k", "\x07"), "ef4c91f3e93178546f7006f450b8b5714aabbeb4a432081cea38cea296dcff62"},
		{of("k", ""), "618cb91417f8a891191da8baec72e214c5a3f3254152b33331350c1e2abb2bf7"},
		{of("a", "1", "b", "2"), "34ac5bca108ba329388e653f139f40621a22176ce05c96297efd5bc71143961d"},
		{of("a", "1", "ab", "2"), "9dfca73ca62df178b2a160d6dcded1b9b38930c1cd229b13380a2a794bb9ad05"},
		{of("a", "1", "ab", "2", "b", "3", "\xff", ""), "b3f469534a7bd8091088185a902f2fceda39660c8b067f735d866cd4aa803a62"},
		{of(long, "x", long+"\x00", "y", long+"\x01", "z"), "0852725cc551b4cb42dc92905f6a43179dfd93ac0c3b9ee7585fabd9cf1c9b9e"},
		{sixty, "def20e20894c909b5067c67642bcb4f4b355194e60c351f37e854f7d351b5c40"},
	} {
		if got, e := Root(c.l); e != api.OK || hex.EncodeToString(got) != c.want {
			t.Errorf("Root of %v: %x, %v, want %s", c.l, got, e, c.want)
		}
	}
}

// P3.6: two keys that part at each bit at which two keys may.
func TestRootOfEachBit(t *testing.T) {
	key := []byte("abcdefghijklmnop")
	for n := range api.MaxKey {
		for shift := range 8 {
			other := bytes.Clone(key)
			other[n] ^= 128 >> shift
			wantRoot(t, risen(map[string]string{string(key): "1", string(other): "2"}))
		}
		if n > 0 {
			wantRoot(t, risen(map[string]string{string(key): "1", string(key[:n]): "2"}))
		}
	}
}

// P3.6: as deep as a tree may be, and as wide.
func TestRootOfFullTrees(t *testing.T) {
	wantRoot(t, counted(api.MaxPairs))
	deep := map[string]string{}
	for n := range api.MaxKey {
		for shift := range 8 {
			if len(deep) < api.MaxPairs {
				deep[strings.Repeat("\xff", n)+string([]byte{byte(255 << (7 - shift))})] = strings.Repeat("v", api.MaxValue)
			}
		}
	}
	wantRoot(t, risen(deep))
	d := die(2)
	for range 20 {
		held := map[string]string{}
		for len(held) < api.MaxPairs {
			held[string(d.key())] = string(d.bytes(d.n(api.MaxValue + 1)))
		}
		wantRoot(t, risen(held))
	}
}

// P3.6: drawn trees.
func TestRootOfDrawnTrees(t *testing.T) {
	d := die(3)
	for range 500 {
		wantRoot(t, d.tree())
	}
}

// P3.6: another key, another value or another number of pairs is another root; a value is told apart from a key.
func TestRootsAreToldApart(t *testing.T) {
	seen := map[string]int{}
	for i, l := range [][]api.Pair{
		nil, of("a", ""), of("a", "b"), of("ab", ""), of("b", "a"), of("a", "\x00"), of("a", "\x00\x00"), of("a\x00", ""),
		of("a", "", "b", ""), of("a", "1", "b", ""), of("a", "", "b", "1"), of("a", "1", "b", "1"), of("a", "", "ab", ""),
		of("a", "", "b", "", "c", ""),
	} {
		got, e := Root(l)
		if other, ok := seen[string(got)]; e != api.OK || len(got) != 32 || ok {
			t.Errorf("Root of the tree %d: %x, %v; the tree %d has it, too: %v", i, got, e, other, ok)
		}
		seen[string(got)] = i
	}
}

// P3.3, P3.4, P3.6: the Root hangs on the pairs alone, not on how they came together.
func TestRootHangsOnPairsAlone(t *testing.T) {
	d := die(4)
	for range 200 {
		l := d.tree()
		want, _ := Root(l)
		var grown []api.Pair
		add := func(p api.Pair) {
			next, e := Put(grown, p)
			if e != api.OK {
				t.Fatal(e)
			}
			grown = next
		}
		var extra [][]byte
		held := heldBy(l)
		for range 5 {
			key := d.key()
			add(api.Pair{Key: key, Value: d.bytes(2)})
			if _, ok := held[string(key)]; !ok {
				extra = append(extra, key)
			}
		}
		shuffled := slices.Clone(l)
		for i := range shuffled {
			k := d.n(i + 1)
			shuffled[i], shuffled[k] = shuffled[k], shuffled[i]
		}
		for _, p := range shuffled {
			add(p)
		}
		for _, key := range extra {
			next, e := Delete(grown, key)
			if e != api.OK {
				t.Fatal(e)
			}
			grown = next
		}
		if got, e := Root(grown); e != api.OK || !bytes.Equal(got, want) || !same(grown, l) {
			t.Errorf("%v became %v: %x, %v, want %x", l, grown, got, e, want)
		}
	}
}
