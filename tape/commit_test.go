package tape

import (
	"bytes"
	"slices"
	"strings"
	"testing"

	"canopy/api"
)

// die: numbers that look drawn, the same each time.
type die uint64

func (d *die) n(most int) int {
	*d = *d*6364136223846793005 + 1442695040888963407
	return int(uint64(*d>>33) % uint64(most))
}

func (d *die) bytes(n int) []byte {
	b := make([]byte, n)
	for i := range b {
		b[i] = byte(d.n(256))
	}
	return b
}

// write that may be.
func (d *die) write() api.Write {
	w := api.Write{Name: d.bytes(1 + d.n(api.MaxName)), Key: d.bytes(1 + d.n(api.MaxKey)), Gone: d.n(3) == 0}
	if !w.Gone {
		w.Value = d.bytes(d.n(api.MaxValue + 1))
	}
	return w
}

// commit that may be.
func (d *die) commit(turn int) api.Commit {
	c := api.Commit{Turn: turn}
	for range 1 + d.n(api.MaxWrites) {
		c.Writes = append(c.Writes, d.write())
	}
	return c
}

func put(name, key, value string) api.Write {
	return api.Write{Name: []byte(name), Key: []byte(key), Value: []byte(value)}
}

func gone(name, key string) api.Write {
	return api.Write{Name: []byte(name), Key: []byte(key), Gone: true}
}

func gonePut(name, key, value string) api.Write {
	w := put(name, key, value)
	w.Gone = true
	return w
}

func commit(turn int, l ...api.Write) api.Commit { return api.Commit{Turn: turn, Writes: l} }

// longest commit: as many writes as there may be, each of them as long as it may be.
func longest(turn int) api.Commit {
	w := put(strings.Repeat("n", api.MaxName), strings.Repeat("k", api.MaxKey), strings.Repeat("v", api.MaxValue))
	return commit(turn, slices.Repeat([]api.Write{w}, api.MaxWrites)...)
}

func sameWrite(a, b api.Write) bool {
	return bytes.Equal(a.Name, b.Name) && bytes.Equal(a.Key, b.Key) && a.Gone == b.Gone && bytes.Equal(a.Value, b.Value)
}

func sameCommit(a, b api.Commit) bool {
	return a.Turn == b.Turn && slices.EqualFunc(a.Writes, b.Writes, sameWrite)
}

func sameCommits(a, b []api.Commit) bool { return slices.EqualFunc(a, b, sameCommit) }

// mayBe: commits that P6.2 takes, edges among them.
func mayBe() map[string]api.Commit {
	return map[string]api.Commit{
		"the first turn":      commit(1, put("a", "k", "v")),
		"the last turn":       commit(api.MaxTurns, put("a", "k", "v")),
		"no value":            commit(1, put("a", "k", "")),
		"Gone":                commit(1, gone("a", "k")),
		"Gone, an empty list": commit(1, gonePut("a", "k", "")),
		"not in order, twice": commit(2, put("b", "k", "v"), put("a", "k", "v"), gone("b", "k"), put("b", "k", "w")),
		"the longest":         longest(7),
		"more tenants than a forest has": commit(3, put("a", "k", ""), put("b", "k", ""), put("c", "k", ""), put("d", "k", ""), put("e", "k", ""),
			put("f", "k", ""), put("g", "k", ""), put("h", "k", ""), put("i", "k", ""), put("j", "k", "")),
	}
}

type refused struct {
	what string
	c    api.Commit
	want api.Errno
}

// mayNotBe: commits that P6.2 refuses, each with the error that is named first.
func mayNotBe() []refused {
	longName, longKey, longValue := strings.Repeat("n", api.MaxName+1), strings.Repeat("k", api.MaxKey+1), strings.Repeat("v", api.MaxValue+1)
	good, bad := put("a", "k", "v"), gonePut("a", "k", "v")
	many := slices.Repeat([]api.Write{good}, api.MaxWrites)
	highest := int(^uint(0) >> 1)
	return []refused{
		{"nothing", api.Commit{}, api.ErrRange},
		{"turn 0", commit(0, good), api.ErrRange},
		{"turn -1", commit(-1, good), api.ErrRange},
		{"a turn too high", commit(api.MaxTurns+1, good), api.ErrRange},
		{"a turn beyond three bytes", commit(1<<24+1, good), api.ErrRange},
		{"the highest turn", commit(highest, good), api.ErrRange},
		{"the lowest turn", commit(-highest-1, good), api.ErrRange},
		{"turn 0, Gone with a value", commit(0, bad), api.ErrRange},
		{"a turn too high, no writes", commit(api.MaxTurns + 1), api.ErrRange},
		{"no writes", commit(1), api.ErrSize},
		{"an empty list of writes", api.Commit{Turn: 1, Writes: []api.Write{}}, api.ErrSize},
		{"one write too many", commit(1, append(many, good)...), api.ErrSize},
		{"so many that a byte does not tell it", commit(1, slices.Repeat(many, 26)...), api.ErrSize},
		{"one too many, and it is wrong", commit(1, append(many, bad)...), api.ErrSize},
		{"one too many, the last ahead of it wrong", commit(1, append(append(slices.Clone(many[1:]), bad), good)...), api.ErrForm},
		{"one too many, the first one wrong", commit(1, append([]api.Write{bad}, many...)...), api.ErrForm},
		{"wrong at the end", commit(1, append(slices.Clone(many[1:]), bad)...), api.ErrForm},
		{"an empty write", commit(1, api.Write{}), api.ErrSize},
		{"no name", commit(1, put("", "k", "v")), api.ErrSize},
		{"a long name", commit(1, put(longName, "k", "v")), api.ErrSize},
		{"no key", commit(1, put("a", "", "v")), api.ErrSize},
		{"a long key", commit(1, put("a", longKey, "v")), api.ErrSize},
		{"a long value", commit(1, put("a", "k", longValue)), api.ErrSize},
		{"a value as long as Gone is told", commit(1, put("a", "k", strings.Repeat("v", 255))), api.ErrSize},
		{"a value whose length a byte does not tell", commit(1, put("a", "k", strings.Repeat("v", 257))), api.ErrSize},
		{"Gone, no name, a value", commit(1, gonePut("", "k", "v")), api.ErrSize},
		{"Gone, no key, a value", commit(1, gonePut("a", "", "v")), api.ErrSize},
		{"Gone, a long key", commit(1, gone("a", longKey)), api.ErrSize},
		{"Gone with a value", commit(1, bad), api.ErrForm},
		{"Gone with a long value", commit(1, gonePut("a", "k", longValue)), api.ErrForm},
		{"no key, then Gone with a value", commit(1, put("a", "", "v"), bad), api.ErrSize},
		{"Gone with a value, then no key", commit(1, bad, put("a", "", "v")), api.ErrForm},
	}
}

// P6.2: the commits that may be, and the error of others that is named first.
func TestCheck(t *testing.T) {
	for what, c := range mayBe() {
		if e := Check(c); e != api.OK {
			t.Errorf("%s: %v", what, e)
		}
	}
	for _, r := range mayNotBe() {
		if e := Check(r.c); e != r.want {
			t.Errorf("%s: %v, want %v", r.what, e, r.want)
		}
	}
}

// wordedBytes of a commit, as P6.3 words it.
func wordedBytes(c api.Commit) []byte {
	out := []byte{byte(c.Turn / 65536), byte(c.Turn / 256 % 256), byte(c.Turn % 256), byte(len(c.Writes))}
	for _, w := range c.Writes {
		texts := [][]byte{w.Name, w.Key, w.Value}
		if w.Gone {
			texts = texts[:2]
		}
		for _, text := range texts {
			out = append(out, byte(len(text)))
			out = append(out, text...)
		}
		if w.Gone {
			out = append(out, 255)
		}
	}
	return out
}

// P6.3 and P6.4: bytes written out by hand.
func TestBytesByHand(t *testing.T) {
	for _, s := range []struct {
		c    api.Commit
		want string
	}{
		{commit(1, put("a", "k", "v")), "\x00\x00\x01\x01\x01a\x01k\x01v"},
		{commit(258, put("\x07", "\x08\x09", "\x05"), gone("\x07", "\x08")), "\x00\x01\x02\x02\x01\x07\x02\x08\x09\x01\x05\x01\x07\x01\x08\xff"},
		{commit(api.MaxTurns, put("bc", "k", "")), "\x10\x00\x00\x01\x02bc\x01k\x00"},
		{commit(0x0fedcb, gone("a", "\xff"), put("a", "\x00", "\xff")), "\x0f\xed\xcb\x02\x01a\x01\xff\xff\x01a\x01\x00\x01\xff"},
	} {
		if got, e := Encode(s.c); e != api.OK || string(got) != s.want {
			t.Errorf("Encode of %v: %q, %v, want %q", s.c, got, e, s.want)
		}
		if got, e := Decode([]byte(s.want)); e != api.OK || !sameCommit(got, s.c) {
			t.Errorf("Decode of %q: %v, %v, want %v", s.want, got, e, s.c)
		}
	}
}

// P6.3 and P6.4: Decode tells what Encode was told, at edges and at drawn commits.
func TestThereAndBack(t *testing.T) {
	var l []api.Commit
	for _, c := range mayBe() {
		l = append(l, c)
	}
	d := die(1)
	for range 500 {
		l = append(l, d.commit(1+d.n(api.MaxTurns)))
	}
	for _, c := range l {
		b, e := Encode(c)
		if e != api.OK || !bytes.Equal(b, wordedBytes(c)) {
			t.Fatalf("Encode of %v: %v, %v, want %v", c, b, e, wordedBytes(c))
		}
		if got, e := Decode(b); e != api.OK || !sameCommit(got, c) {
			t.Fatalf("Decode of %v: %v, %v, want %v", b, got, e, c)
		}
	}
}

// P6.3: Encode refuses what Check refuses.
func TestEncodeRefuses(t *testing.T) {
	for _, r := range mayNotBe() {
		if got, e := Encode(r.c); len(got) != 0 || e != r.want {
			t.Errorf("%s: %v, %v, want %v", r.what, got, e, r.want)
		}
	}
}

// P6.4: what is refused, and which error is named first.
func TestDecodeRefuses(t *testing.T) {
	many := strings.Repeat("\x01a\x01k\x00", 255)
	wide := strings.Repeat("\xfe"+strings.Repeat("n", 254)+"\xfe"+strings.Repeat("k", 254)+"\xfe"+strings.Repeat("v", 254), 5)
	for _, s := range []struct {
		what, b string
		want    api.Errno
	}{
		{"nothing", "", api.ErrShort},
		{"no number of writes", "\x00\x00\x01", api.ErrShort},
		{"no writes", "\x00\x00\x01\x00", api.ErrSize},
		{"no writes, turn 0", "\x00\x00\x00\x00", api.ErrRange},
		{"no writes, more bytes", "\x00\x00\x00\x00\x00", api.ErrForm},
		{"no name", "\x00\x00\x01\x01", api.ErrShort},
		{"a name too short", "\x00\x00\x01\x01\x02a", api.ErrShort},
		{"no value", "\x00\x00\x01\x01\x01a\x01k", api.ErrShort},
		{"a value too short", "\x00\x00\x01\x01\x01a\x01k\x02v", api.ErrShort},
		{"a second write is not there", "\x00\x00\x01\x02\x01a\x01k\xff", api.ErrShort},
		{"a name too short, turn 0", "\x00\x00\x00\x01\x09a", api.ErrShort},
		{"255 writes, of which one is there", "\x00\x00\x01\xff\x01a\x01k\xff", api.ErrShort},
		{"one byte more", "\x00\x00\x01\x01\x01a\x01k\x01v\x00", api.ErrForm},
		{"a length behind Gone", "\x00\x00\x01\x01\x01a\x01k\xff\x00", api.ErrForm},
		{"one byte more, turn 0", "\x00\x00\x00\x01\x01a\x01k\x01v\x00", api.ErrForm},
		{"one byte more, an empty name", "\x00\x00\x01\x01\x00\x01k\x01v\x00", api.ErrForm},
		{"turn 0", "\x00\x00\x00\x01\x01a\x01k\x01v", api.ErrRange},
		{"a turn too high", "\x10\x00\x01\x01\x01a\x01k\x01v", api.ErrRange},
		{"the highest turn", "\xff\xff\xff\x01\x01a\x01k\x01v", api.ErrRange},
		{"turn 0, an empty name", "\x00\x00\x00\x01\x00\x01k\x01v", api.ErrRange},
		{"an empty name", "\x00\x00\x01\x01\x00\x01k\x01v", api.ErrSize},
		{"a long name", "\x00\x00\x01\x01\x09abcdefghi\x01k\x01v", api.ErrSize},
		{"an empty key", "\x00\x00\x01\x01\x01a\x00\x01v", api.ErrSize},
		{"an empty key, Gone", "\x00\x00\x01\x01\x01a\x00\xff", api.ErrSize},
		{"a long key", "\x00\x00\x01\x01\x01a\x11" + strings.Repeat("k", 17) + "\x01v", api.ErrSize},
		{"a long value", "\x00\x00\x01\x01\x01a\x01k\x21" + strings.Repeat("v", 33), api.ErrSize},
		{"the longest value that a byte tells", "\x00\x00\x01\x01\x01a\x01k\xfe" + strings.Repeat("v", 254), api.ErrSize},
		{"255 bytes that are no value", "\x00\x00\x01\x01\x01a\x01k\xff" + strings.Repeat("v", 255), api.ErrForm},
		{"one write too many", "\x00\x00\x01\x0b" + many[:11*5], api.ErrSize},
		{"as many writes as a byte tells", "\x00\x00\x01\xff" + many, api.ErrSize},
		{"texts that are all too long", "\x00\x00\x01\x05" + wide, api.ErrSize},
		{"MaxData bytes that end too early", "\x00\x00\x01\x06" + wide + strings.Repeat("\xc8", api.MaxData-4-len(wide)), api.ErrShort},
		{"MaxData bytes, more than are told", "\x00\x00\x01\x01\x01a\x01k\x01v" + strings.Repeat("v", api.MaxData-10), api.ErrForm},
		{"one byte too many for MaxData", "\x00\x00\x01\x01\x01a\x01k\x01v" + strings.Repeat("v", api.MaxData-9), api.ErrSize},
		{"a great many bytes", strings.Repeat("\x00", 100*api.MaxData), api.ErrSize},
	} {
		if got, e := Decode([]byte(s.b)); !sameCommit(got, api.Commit{}) || e != s.want {
			t.Errorf("%s: %v, %v, want %v", s.what, got, e, s.want)
		}
	}
}

// P6.4: bytes that end anywhere too early, and such that go on.
func TestDecodeOfPieces(t *testing.T) {
	for _, c := range mayBe() {
		b := wordedBytes(c)
		for n := range b {
			if got, e := Decode(b[:n:n]); e != api.ErrShort || !sameCommit(got, api.Commit{}) {
				t.Fatalf("Decode of %d bytes of %v: %v, %v", n, b, got, e)
			}
		}
		for n := 1; n < 300; n += 37 {
			if got, e := Decode(append(slices.Clone(b), make([]byte, n)...)); e != api.ErrForm || !sameCommit(got, api.Commit{}) {
				t.Fatalf("Decode of %d bytes behind %v: %v, %v", n, b, got, e)
			}
		}
	}
}

// P6.4: whatever the bytes, a commit is told of them only if they are its bytes.
func TestDecodeOfDrawnBytes(t *testing.T) {
	d := die(2)
	seen := map[api.Errno]int{}
	for range 20000 {
		c := commit(1+d.n(api.MaxTurns), d.write())
		for range d.n(api.MaxWrites + 2) {
			c.Writes = append(c.Writes, d.write())
		}
		b := wordedBytes(c)
		for range d.n(3) {
			b[d.n(len(b))] = byte(d.n(256))
		}
		switch d.n(8) {
		case 0:
			b = b[:d.n(len(b))]
		case 1:
			b = append(b, d.bytes(d.n(3))...)
		}
		got, e := Decode(b)
		seen[e]++
		if e == api.OK && (Check(got) != api.OK || !bytes.Equal(wordedBytes(got), b)) || e != api.OK && !sameCommit(got, api.Commit{}) {
			t.Fatalf("Decode of %v: %v, %v", b, got, e)
		}
	}
	for _, e := range []api.Errno{api.OK, api.ErrSize, api.ErrRange, api.ErrForm, api.ErrShort} {
		if seen[e] < 20 {
			t.Errorf("outcomes: %v", seen)
		}
	}
}
