package digest

import (
	"bytes"
	"encoding/hex"
	"testing"

	"canopy/api"
)

// drawn: bytes that look drawn, the same each time.
func drawn(n int) []byte {
	b := make([]byte, n)
	for i := range b {
		b[i] = byte(i*i + 3*i + 1)
	}
	return b
}

func wantDigest(t *testing.T, what string, got []byte, e api.Errno, want string) {
	t.Helper()
	if e != api.OK || hex.EncodeToString(got) != want {
		t.Errorf("%s: %x, %v, want %s", what, got, e, want)
	}
}

func wantSize(t *testing.T, what string, got []byte, e api.Errno) {
	t.Helper()
	if e != api.ErrSize || len(got) != 0 {
		t.Errorf("%s: %x, %v, want nothing and %v", what, got, e, api.ErrSize)
	}
}

// P1.1: digests of FIPS 202 that are widely told.
func TestSumOfTexts(t *testing.T) {
	for _, c := range []struct{ text, want string }{
		{"", "a7ffc6f8bf1ed76651c14756a061d662f580ff4de43b49fa82d80a4b80f8434a"},
		{"abc", "3a985da74fe225b2045c172d6bd390bd855f086e3e9d525b46bfe24511431532"},
		{"abcdbcdecdefdefgefghfghighijhijkijkljklmklmnlmnomnopnopq", "41c0dba2a9d6240849100376a8235e2c82e1b9998a999e21db32dd97496d3376"},
	} {
		got, e := Sum([]byte(c.text))
		wantDigest(t, c.text, got, e, c.want)
	}
}

// P1.1: lengths about those of lanes, about multiples of 136, and up to MaxData.
func TestSumOfLengths(t *testing.T) {
	for _, c := range []struct {
		n    int
		want string
	}{
		{0, "a7ffc6f8bf1ed76651c14756a061d662f580ff4de43b49fa82d80a4b80f8434a"},
		{1, "2767f15c8af2f2c7225d5273fdd683edc714110a987d1054697c348aed4e6cc7"},
		{7, "592392c3e5a58a9465c68619bf0049f49cebca40b057d77b2deaf9acefe1042d"},
		{8, "0ad4de4d2e56f5d8c2c5b1c5de319336af70643a8fcd42e63b457be0d4bcc809"},
		{9, "a249263c033b4d0a3d673c7e2d22309bdd0f2c561bb58cf8f287475d56aff3a3"},
		{134, "03b32c78bea65054666b801e97a772b53c7fe2d3fc2e87a963af00644b04f21f"},
		{135, "eb58dbdbd70dd926fd415e16e8b5eddb652261cc2af0876357b1271c3e36b39c"},
		{136, "98bfb93a522101ad2e7f3b3da7ecf9552b3165ccf11af4c63ecaaf2d42f0d6eb"},
		{137, "25f4d2d37f4f3a049fd5c9b79614efeeb293b749655a2acf2a9cf62e466b2bfe"},
		{271, "ca1fa1996fc40b630ad1f1fcff93a6370810f1fd6aa1523f203469f0a88d9666"},
		{272, "87584c9ae785ae6d6f05281cfaef8bc60c8d6bcd835ac04cc8047a7a5828fe65"},
		{273, "2d7af80da99e73eefbd5c2addfe5309b6716207c6f9b612b2dc7147bfc6ccf6b"},
		{3943, "1a6a0e634fee9136a391728756822addeb09e840c44afbf38c93216ed3cbefc0"},
		{3944, "d322eb59f833990dade43c2c5e0a13e96c363315850a09a7c24a95d0ff3149d5"},
		{3945, "f2d7cad2134dde0db24bc7b0867e418be03ce8a97cce1cb8ba3d7176dbc27cad"},
		{3999, "70a1826ec186573d10e61728538b112c499d0261290199b7b8d4380cd2783cdf"},
		{4000, "11c399732c5aae3295b60b34f211e93e72c256d7f14e188b8c63f2d814207821"},
	} {
		got, e := Sum(drawn(c.n))
		wantDigest(t, "a digest", got, e, c.want)
	}
}

// P1.1: each length up to three times 136 and some way on, and a few greater ones, against what the chapter words.
func TestSumAsWorded(t *testing.T) {
	lengths := []int{api.MaxData - 1, api.MaxData}
	for n := range 450 {
		lengths = append(lengths, n)
	}
	for n := 450; n < api.MaxData; n += 97 {
		lengths = append(lengths, n)
	}
	for _, n := range lengths {
		got, e := Sum(drawn(n))
		if e != api.OK || !bytes.Equal(got, wordedSum(drawn(n))) {
			t.Errorf("%d bytes: %x, %v, want %x", n, got, e, wordedSum(drawn(n)))
		}
	}
}

// P1.1: noughts at the end count, beside those that fill up.
func TestSumOfNoughts(t *testing.T) {
	seen := map[string]int{}
	for n := range 300 {
		got, e := Sum(make([]byte, n))
		if e != api.OK || len(got) != 32 {
			t.Fatalf("%d noughts: %x, %v", n, got, e)
		}
		if other, ok := seen[string(got)]; ok {
			t.Errorf("%d noughts have the digest of %d", n, other)
		}
		seen[string(got)] = n
	}
}

// P1.1: more than MaxData bytes.
func TestSumRefuses(t *testing.T) {
	for _, n := range []int{api.MaxData + 1, api.MaxData + 136, 1 << 16, 1 << 24} {
		got, e := Sum(make([]byte, n))
		wantSize(t, "too many bytes", got, e)
	}
}

// P1.1: no bytes may be nil or not.
func TestSumOfNil(t *testing.T) {
	a, e := Sum(nil)
	b, f := Sum([]byte{})
	if e != api.OK || f != api.OK || !bytes.Equal(a, b) {
		t.Errorf("nil: %x, %v; no bytes: %x, %v", a, e, b, f)
	}
}

// P1.3: digests of a few parts.
func TestParts(t *testing.T) {
	got, e := Parts(0)
	wantDigest(t, "no parts", got, e, "5d53469f20fef4f8eab52b88044ede69c77a6a68a60728609fc4a65ff531e7d0")
	got, e = Parts(0, nil)
	wantDigest(t, "a part without bytes", got, e, "4f808a691382f10c81d6bbad4a2016bf155f36623197b97e3bb47afec194cead")
	got, e = Parts(0, []byte{})
	wantDigest(t, "a part without bytes", got, e, "4f808a691382f10c81d6bbad4a2016bf155f36623197b97e3bb47afec194cead")
	got, e = Parts(1, []byte("k"), []byte{7})
	wantDigest(t, "two parts", got, e, "ef4c91f3e93178546f7006f450b8b5714aabbeb4a432081cea38cea296dcff62")
	got, e = Parts(2, nil, []byte("abc"))
	wantDigest(t, "two parts", got, e, "a16596a98a10719b3838bab8f5851ea7366aeee49d6044851778dff5655133a4")
}

// P1.3: the length has two bytes, the highest one first.
func TestPartsOfLengths(t *testing.T) {
	for _, n := range []int{0, 1, 255, 256, 257, 511, 512, 3996, 3997} {
		part := drawn(n)
		got, e := Parts(255, part)
		want := wordedSum(append([]byte{255, byte(n / 256), byte(n % 256)}, part...))
		wantDigest(t, "a part", got, e, hex.EncodeToString(want))
	}
}

// P1.3: each kind, and any number of parts.
func TestPartsOfKinds(t *testing.T) {
	seen := map[string]bool{}
	for kind := range 256 {
		var parts [][]byte
		plain := []byte{byte(kind)}
		for i := range kind % 20 {
			part := drawn(i)
			parts = append(parts, part)
			plain = append(append(plain, 0, byte(i)), part...)
		}
		got, e := Parts(byte(kind), parts...)
		wantDigest(t, "parts", got, e, hex.EncodeToString(wordedSum(plain)))
		seen[string(got)] = true
	}
	if len(seen) != 256 {
		t.Errorf("256 kinds have %d digests", len(seen))
	}
}

// P1.3: the same bytes, cut in other ways, are other parts.
func TestPartsAreToldApart(t *testing.T) {
	seen := map[string]bool{}
	lists := [][][]byte{
		{[]byte("abc")}, {[]byte("ab"), []byte("c")}, {[]byte("a"), []byte("bc")}, {[]byte("abc"), nil},
		{nil, []byte("abc")}, {[]byte("a"), []byte("b"), []byte("c")}, {}, {nil}, {nil, nil},
	}
	for _, l := range lists {
		got, e := Parts(3, l...)
		if e != api.OK {
			t.Errorf("%q: %v", l, e)
		}
		seen[string(got)] = true
	}
	if len(seen) != len(lists) {
		t.Errorf("%d lists of parts have %d digests", len(lists), len(seen))
	}
}

// P1.3: kind, lengths and parts are at most MaxData bytes together.
func TestPartsUpToMaxData(t *testing.T) {
	for _, c := range []struct {
		lengths []int
		fits    bool
	}{
		{[]int{3997}, true},
		{[]int{3998}, false},
		{[]int{4000}, false},
		{[]int{4001}, false},
		{[]int{1 << 16}, false},
		{[]int{1 << 24}, false},
		{[]int{2000, 1995}, true},
		{[]int{2000, 1996}, false},
		{[]int{3995, 0}, true},
		{[]int{3996, 0}, false},
		{[]int{3997, 0}, false},
		{[]int{0, 4001}, false},
		{[]int{4001, 0}, false},
		{[]int{4000, 4000, 4000}, false},
	} {
		var parts [][]byte
		for _, n := range c.lengths {
			parts = append(parts, make([]byte, n))
		}
		got, e := Parts(1, parts...)
		if c.fits && (e != api.OK || len(got) != 32) {
			t.Errorf("parts of %d bytes: %x, %v", c.lengths, got, e)
		} else if !c.fits {
			wantSize(t, "parts", got, e)
		}
	}
}

// P1.3: many parts; without bytes, too, each has a length.
func TestManyParts(t *testing.T) {
	got, e := Parts(0, make([][]byte, 1999)...)
	wantDigest(t, "1999 parts", got, e, hex.EncodeToString(wordedSum(make([]byte, 3999))))
	many := make([][]byte, 1999)
	many[1998] = []byte{0}
	got, e = Parts(0, many...)
	if e != api.OK || len(got) != 32 {
		t.Errorf("MaxData bytes in 1999 parts: %x, %v", got, e)
	}
	for _, n := range []int{2000, 1 << 16, 1 << 20} {
		got, e := Parts(0, make([][]byte, n)...)
		wantSize(t, "many parts", got, e)
	}
}

// What is handed in stays as it is, its spare room, too.
func TestArgumentsStay(t *testing.T) {
	for _, n := range []int{0, 1, 135, 136, 137, api.MaxData, api.MaxData + 1} {
		room := drawn(n + 300)
		Sum(room[:n])
		if !bytes.Equal(room, drawn(n+300)) {
			t.Errorf("Sum of %d bytes changes what it is handed", n)
		}
		parts := [][]byte{room[:n], room[n : n+10], nil, room}
		Parts(1, parts[:2]...)
		if !bytes.Equal(room, drawn(n+300)) {
			t.Errorf("Parts of %d bytes changes what it is handed", n)
		}
		if len(parts[0]) != n || len(parts[1]) != 10 || parts[2] != nil || len(parts[3]) != n+300 {
			t.Errorf("Parts of %d bytes changes the list of parts", n)
		}
	}
}

// spoil: all that a list has, its spare room, too.
func spoil(b []byte) {
	b = b[:cap(b)]
	for i := range b {
		b[i] ^= 255
	}
}

// What comes out is new memory, and nothing is kept from call to call.
func TestAnswersAreNew(t *testing.T) {
	b := drawn(200)
	first, _ := Sum(b)
	second, _ := Sum(b)
	want := hex.EncodeToString(wordedSum(b))
	spoil(first)
	wantDigest(t, "an answer behind a spoilt one", second, api.OK, want)
	if !bytes.Equal(b, drawn(200)) {
		t.Error("an answer of Sum shares memory with what was handed in")
	}
	again, e := Sum(b)
	wantDigest(t, "a later answer", again, e, want)

	third, _ := Parts(4, b)
	fourth, _ := Parts(4, b)
	plain := wordedSum(append([]byte{4, 0, 200}, b...))
	spoil(third)
	wantDigest(t, "an answer behind a spoilt one", fourth, api.OK, hex.EncodeToString(plain))
	if !bytes.Equal(b, drawn(200)) {
		t.Error("an answer of Parts shares memory with what was handed in")
	}
}

// A call that refuses leaves nothing behind for the next one.
func TestRefusalsLeaveNothing(t *testing.T) {
	Sum(make([]byte, api.MaxData+1))
	Parts(9, []byte("abc"), make([]byte, api.MaxData))
	got, e := Sum([]byte("abc"))
	wantDigest(t, "abc", got, e, "3a985da74fe225b2045c172d6bd390bd855f086e3e9d525b46bfe24511431532")
}
