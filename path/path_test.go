package path

import (
	"bytes"
	"testing"

	"canopy/api"
)

// worded: the bits of a key, written out as the chapter words them.
func worded(key []byte) []bool {
	var l []bool
	for _, b := range key {
		l = append(l, true)
		for mask := 128; mask > 0; mask /= 2 {
			l = append(l, int(b)&mask != 0)
		}
	}
	for len(l) < api.MaxPath {
		l = append(l, false)
	}
	return l
}

// wordedPart: the first place at which the worded bits differ.
func wordedPart(a, b []byte) int {
	l, m := worded(a), worded(b)
	for i := range l {
		if l[i] != m[i] {
			return i
		}
	}
	return -1
}

// keys: of all lengths, with bytes at the edges, and some that begin with one another.
func keys() [][]byte {
	l := [][]byte{{0}, {1}, {2}, {127}, {128}, {254}, {255}, {0, 0}, {0, 1}, {255, 0}, {255, 255}, []byte("a"), []byte("ab"), []byte("abc"), []byte("b")}
	for n := 1; n <= api.MaxKey; n++ {
		drawn := make([]byte, n)
		for i := range drawn {
			drawn[i] = byte(i*i*7 + 31*n + 5*i)
		}
		l = append(l, drawn, bytes.Repeat([]byte{0}, n), bytes.Repeat([]byte{255}, n), []byte("abcdefghijklmnop")[:n])
	}
	return l
}

// noKeys: what has too few bytes, or too many.
func noKeys() [][]byte {
	return [][]byte{nil, {}, make([]byte, api.MaxKey+1), bytes.Repeat([]byte{255}, api.MaxKey+1), make([]byte, 1000)}
}

// P2.1: 1 to MaxKey bytes, whatever they are.
func TestCheck(t *testing.T) {
	for n := range 3 * api.MaxKey {
		want := api.OK
		if n == 0 || n > api.MaxKey {
			want = api.ErrSize
		}
		for _, b := range []byte{0, 'a', 255} {
			if e := Check(bytes.Repeat([]byte{b}, n)); e != want {
				t.Errorf("Check of %d times %d: %v, want %v", n, b, e, want)
			}
		}
	}
	if e := Check(nil); e != api.ErrSize {
		t.Errorf("Check of nil: %v", e)
	}
}

// P2.1, P2.2: bits that were worked out by hand.
func TestBitByHand(t *testing.T) {
	for _, c := range []struct{ key, want string }{
		{"a", "101100001000000000"},
		{"\x00", "100000000000000000"},
		{"\xff", "111111111000000000"},
		{"\x80\x01", "110000000100000001"},
		{"ab", "101100001101100010"},
	} {
		for i, digit := range c.want {
			if got, e := Bit([]byte(c.key), i); e != api.OK || got != (digit == '1') {
				t.Errorf("Bit %d of %q: %v, %v, want %c", i, c.key, got, e, digit)
			}
		}
	}
}

// P2.1, P2.2: each bit from 0 to MaxPath - 1 of many keys.
func TestBitOfAllPlaces(t *testing.T) {
	for _, key := range keys() {
		want := worded(key)
		for i := range api.MaxPath {
			if got, e := Bit(key, i); e != api.OK || got != want[i] {
				t.Errorf("Bit %d of %v: %v, %v, want %v", i, key, got, e, want[i])
			}
		}
	}
}

// P2.2: what is refused: the key first, then the place.
func TestBitRefused(t *testing.T) {
	most := int(^uint(0) >> 1)
	beyond := []int{-1, -2, -9, -api.MaxPath, api.MaxPath, api.MaxPath + 1, 2 * api.MaxPath, 1 << 32, -1 << 32, most, -most - 1}
	for _, i := range beyond {
		for _, key := range keys() {
			if got, e := Bit(key, i); got || e != api.ErrRange {
				t.Errorf("Bit %d of %v: %v, %v, want %v", i, key, got, e, api.ErrRange)
			}
		}
	}
	for _, i := range append(beyond, 0, 1, 8, api.MaxPath-1) {
		for _, key := range noKeys() {
			if got, e := Bit(key, i); got || e != api.ErrSize {
				t.Errorf("Bit %d of %d bytes: %v, %v, want %v", i, len(key), got, e, api.ErrSize)
			}
		}
	}
}

// P2.3: parts that were worked out by hand.
func TestPartByHand(t *testing.T) {
	long := "abcdefghijklmno"
	for _, c := range []struct {
		a, b string
		want int
	}{
		{"a", "b", 7},
		{"a", "a", -1},
		{"a", "ab", 9},
		{"a", "a\x00", 9},
		{"ab", "abc", 18},
		{"\x00", "\x80", 1},
		{"\x00", "\x01", 8},
		{"\x7f", "\xff\xff", 1},
		{"aa", "ab", 16},
		{"aa", "b", 7},
		{long, long + "\x00", 135},
		{long + "\x00", long + "\x80", 136},
		{long + "\x00", long + "\x01", 143},
		{long + "x", long + "x", -1},
		{"\x00", "\x00" + long, 9},
	} {
		for _, two := range [2][2]string{{c.a, c.b}, {c.b, c.a}} {
			if got, e := Part([]byte(two[0]), []byte(two[1])); e != api.OK || got != c.want {
				t.Errorf("Part of %q and %q: %d, %v, want %d", two[0], two[1], got, e, c.want)
			}
		}
	}
}

// P2.3: each two of many keys; and of two that differ the one with 0 there stands first.
func TestPartOfEachTwo(t *testing.T) {
	for _, a := range keys() {
		for _, b := range keys() {
			got, e := Part(a, b)
			if want := wordedPart(a, b); e != api.OK || got != want {
				t.Fatalf("Part of %v and %v: %d, %v, want %d", a, b, got, e, want)
			}
			if (got == -1) != bytes.Equal(a, b) {
				t.Fatalf("Part of %v and %v: %d", a, b, got)
			}
			if got == -1 {
				continue
			}
			if bit, e := Bit(a, got); e != api.OK || bit != (bytes.Compare(a, b) > 0) {
				t.Fatalf("Bit %d of %v, which is held against %v: %v, %v", got, a, b, bit, e)
			}
		}
	}
}

// P2.3: keys that differ in one bit alone, from the first that may differ to the last one of their bytes.
func TestPartOfOneBit(t *testing.T) {
	for n := range api.MaxKey {
		for shift := range 8 {
			a := []byte("abcdefghijklmnop")
			b := bytes.Clone(a)
			b[n] ^= 128 >> shift
			if got, e := Part(a, b); e != api.OK || got != 9*n+1+shift {
				t.Errorf("Part of %v and %v: %d, %v", a, b, got, e)
			}
		}
	}
}

// P2.3: no key on either side.
func TestPartRefused(t *testing.T) {
	for _, no := range noKeys() {
		for _, other := range append(keys(), noKeys()...) {
			if got, e := Part(no, other); got != 0 || e != api.ErrSize {
				t.Errorf("Part of %d bytes and %v: %d, %v", len(no), other, got, e)
			}
			if got, e := Part(other, no); got != 0 || e != api.ErrSize {
				t.Errorf("Part of %v and %d bytes: %d, %v", other, len(no), got, e)
			}
		}
	}
}

// What is handed in, and its spare room, stays as it is, and is not looked at beyond its length.
func TestHandedInStays(t *testing.T) {
	room := []byte("abxyz")
	a, b := room[:1], room[:2]
	if got, e := Part(a, b); got != 9 || e != api.OK {
		t.Errorf("Part of pieces: %d, %v", got, e)
	}
	if got, e := Bit(a, 9); got || e != api.OK {
		t.Errorf("Bit of a piece: %v, %v", got, e)
	}
	if e := Check(room[:0]); e != api.ErrSize {
		t.Errorf("Check of a piece: %v", e)
	}
	if string(room) != "abxyz" {
		t.Errorf("the room has become %q", room)
	}
}
