package wire

import (
	"bytes"
	"slices"
	"strings"
	"testing"

	"canopy/api"
)

// wordedBytes of a request that may be, as P9.1 and P9.3 word them.
func wordedBytes(r api.Request) []byte {
	out := []byte{byte(r.Kind)}
	behind := func(l ...[]byte) {
		for _, b := range l {
			out = append(out, byte(len(b)))
			out = append(out, b...)
		}
	}
	switch r.Kind {
	case api.Get, api.Delete, api.Prove:
		behind(r.Name, r.Key)
	case api.Scan:
		behind(r.Name, r.Key, r.Last)
	case api.Put:
		behind(r.Name, r.Key, r.Value)
	}
	return out
}

// wordedRequest of bytes, as P9.4 words it: lengths are gone through first, Check comes last.
func wordedRequest(b []byte) (api.Request, api.Errno) {
	if len(b) > api.MaxData {
		return api.Request{}, api.ErrSize
	}
	if len(b) == 0 {
		return api.Request{}, api.ErrShort
	}
	count := map[byte]int{api.Begin: 0, api.Get: 2, api.Scan: 3, api.Put: 3, api.Delete: 2, api.Commits: 0, api.Abort: 0, api.Prove: 2}
	n, ok := count[b[0]]
	if !ok {
		return api.Request{}, api.ErrKind
	}
	l := make([][]byte, 3)
	place := 1
	for i := range n {
		if place >= len(b) || place+1+int(b[place]) > len(b) {
			return api.Request{}, api.ErrShort
		}
		l[i] = b[place+1 : place+1+int(b[place])]
		place += 1 + len(l[i])
	}
	if place < len(b) {
		return api.Request{}, api.ErrForm
	}
	r := api.Request{Kind: int(b[0]), Name: l[0], Key: l[1]}
	if r.Kind == api.Scan {
		r.Last = l[2]
	} else {
		r.Value = l[2]
	}
	if e := Check(r); e != api.OK {
		return api.Request{}, e
	}
	return r, api.OK
}

// P9.3 and P9.4: bytes written out by hand.
func TestBytesByHand(t *testing.T) {
	for _, s := range []struct {
		r    api.Request
		want string
	}{
		{alone(api.Begin), "\x01"},
		{at(api.Get, "a", "k"), "\x02\x01a\x01k"},
		{scan("a", "k", "lm"), "\x03\x01a\x01k\x02lm"},
		{scan("ab", "l", "k"), "\x03\x02ab\x01l\x01k"},
		{put("\x01", "\x02\x03", "\x04"), "\x04\x01\x01\x02\x02\x03\x01\x04"},
		{put("a", "k", ""), "\x04\x01a\x01k\x00"},
		{put(longName, longKey, longValue), "\x04\x08" + longName + "\x10" + longKey + "\x20" + longValue},
		{at(api.Delete, "abc", "\x00"), "\x05\x03abc\x01\x00"},
		{alone(api.Commits), "\x06"},
		{alone(api.Abort), "\x07"},
		{at(api.Prove, "\xff", "kl"), "\x08\x01\xff\x02kl"},
	} {
		if got, e := Encode(s.r); e != api.OK || string(got) != s.want {
			t.Errorf("Encode of %v: %q, %v, want %q", s.r, got, e, s.want)
		}
		if got, e := Decode([]byte(s.want)); e != api.OK || !same(got, s.r) {
			t.Errorf("Decode of %q: %v, %v, want %v", s.want, got, e, s.r)
		}
	}
}

// P9.3 and P9.4: Decode tells what Encode was told; with a byte fewer they end too early, with one more there are more.
func TestThereAndBack(t *testing.T) {
	seen := map[int]int{}
	for _, r := range someRequests(3) {
		b, e := Encode(r)
		if e != api.OK || !bytes.Equal(b, wordedBytes(r)) {
			t.Fatalf("Encode of %v: %v, %v, want %v", r, b, e, wordedBytes(r))
		}
		if got, e := Decode(b); e != api.OK || !same(got, r) {
			t.Fatalf("Decode of %v: %v, %v, want %v", b, got, e, r)
		}
		for n := range b {
			if got, e := Decode(b[:n]); e != api.ErrShort || !same(got, api.Request{}) {
				t.Fatalf("Decode of %v: %v, %v, want %v", b[:n], got, e, api.ErrShort)
			}
		}
		for _, more := range []string{"\x00", "\x01", "\x01k", "\xff"} {
			longer := append(bytes.Clone(b), more...)
			if got, e := Decode(longer); e != api.ErrForm || !same(got, api.Request{}) {
				t.Fatalf("Decode of %v: %v, %v, want %v", longer, got, e, api.ErrForm)
			}
		}
		seen[r.Kind]++
	}
	everyKind(t, seen)
}

// P9.4: what is refused, and which error is named first.
func TestDecodeRefuses(t *testing.T) {
	n9, k17, v33 := "\x09"+longName+"n", "\x11"+longKey+"k", "\x21"+longValue+"v"
	full := strings.Repeat("x", api.MaxData-1)
	for _, s := range []struct {
		what, b string
		want    api.Errno
	}{
		{"nothing", "", api.ErrShort},
		{"too many bytes", "\x01" + full + "x", api.ErrSize},
		{"too many bytes, no kind", "\x00" + full + "x", api.ErrSize},
		{"too many bytes by far", "\x01" + strings.Repeat(full, 20), api.ErrSize},
		{"as many bytes as may be, no kind", "\x09" + full, api.ErrKind},
		{"as many bytes as may be, more than there are parts", "\x01" + full, api.ErrForm},
		{"as many bytes as may be, more behind a put", "\x04\x01a\x01k\x01v" + full[:api.MaxData-7], api.ErrForm},
		{"the kind 0", "\x00", api.ErrKind},
		{"the kind 9", "\x09", api.ErrKind},
		{"the kind 255", "\xff", api.ErrKind},
		{"the kind 0, with a place", "\x00\x01a\x01k", api.ErrKind},
		{"the kind 10, too short", "\x0a\x05", api.ErrKind},
		{"no name", "\x02", api.ErrShort},
		{"a name too short", "\x02\x02a", api.ErrShort},
		{"a name of no byte", "\x02\x01", api.ErrShort},
		{"no key", "\x05\x01a", api.ErrShort},
		{"a key too short", "\x08\x01a\x03kl", api.ErrShort},
		{"no last", "\x03\x01a\x01k", api.ErrShort},
		{"a last too short", "\x03\x01a\x01k\x02l", api.ErrShort},
		{"no value", "\x04\x01a\x01k", api.ErrShort},
		{"a value too short", "\x04\x01a\x01k\x02v", api.ErrShort},
		{"a value of 255 bytes, of which one is there", "\x04\x01a\x01k\xffv", api.ErrShort},
		{"an empty name, then too short", "\x02\x00", api.ErrShort},
		{"a name too long, then too short", "\x02" + n9, api.ErrShort},
		{"a key too long, then too short", "\x04\x01a" + k17, api.ErrShort},
		{"more behind a Begin", "\x01\x00", api.ErrForm},
		{"a place behind Commits", "\x06\x01a\x01k", api.ErrForm},
		{"more behind an Abort", "\x07\x07", api.ErrForm},
		{"a last behind a Get", "\x02\x01a\x01k\x01l", api.ErrForm},
		{"a value behind a Delete", "\x05\x01a\x01k\x00", api.ErrForm},
		{"a value behind a Scan", "\x03\x01a\x01k\x01l\x00", api.ErrForm},
		{"two values", "\x04\x01a\x01k\x01v\x01v", api.ErrForm},
		{"an empty name, and more", "\x02\x00\x01k\x00", api.ErrForm},
		{"a key too long, and more", "\x02\x01a" + k17 + "\x00", api.ErrForm},
		{"an empty name", "\x02\x00\x01k", api.ErrSize},
		{"a name too long", "\x08" + n9 + "\x01k", api.ErrSize},
		{"an empty key", "\x05\x01a\x00", api.ErrSize},
		{"a key too long", "\x02\x01a" + k17, api.ErrSize},
		{"an empty last", "\x03\x01a\x01k\x00", api.ErrSize},
		{"a last too long", "\x03\x01a\x01k" + k17, api.ErrSize},
		{"a value too long", "\x04\x01a\x01k" + v33, api.ErrSize},
		{"the longest value that a byte tells", "\x04\x01a\x01k\xff" + strings.Repeat("v", 255), api.ErrSize},
		{"all empty", "\x04\x00\x00\x00", api.ErrSize},
	} {
		if got, e := Decode([]byte(s.b)); e != s.want || !same(got, api.Request{}) {
			t.Errorf("%s: %v, %v, want %v", s.what, got, e, s.want)
		}
		if _, e := wordedRequest([]byte(s.b)); e != s.want {
			t.Errorf("%s: the worded form: %v, want %v", s.what, e, s.want)
		}
	}
}

// spoilt: bytes of a request, changed here and there, cut, with more behind them, or with parts too short or too long.
func (d *die) spoilt() []byte {
	r := d.request()
	b := wordedBytes(r)
	switch d.n(7) {
	case 0:
		return b
	case 1:
		return b[:d.n(len(b)+1)]
	case 2:
		return append(b, d.bytes(1+d.n(3))...)
	case 3:
		return append([]byte{byte(d.n(11))}, d.bytes(d.n(40))...)
	case 4:
		r.Name, r.Key, r.Last, r.Value = d.bytes(d.n(api.MaxName+3)), d.bytes(d.n(api.MaxKey+3)), d.bytes(d.n(api.MaxKey+3)), d.bytes(d.n(api.MaxValue+3))
		return wordedBytes(r)
	}
	for range 1 + d.n(3) {
		b[d.n(len(b))] = byte(d.n(40))
	}
	return b
}

// P9.4: Decode tells of drawn bytes what its words say; what it takes has these bytes alone.
func TestNoTwoForms(t *testing.T) {
	d := die(4)
	seen := map[api.Errno]int{}
	for range 40000 {
		b := d.spoilt()
		want, wantError := wordedRequest(b)
		got, e := Decode(b)
		if e != wantError || !same(got, want) {
			t.Fatalf("Decode of %v: %v, %v, want %v, %v", b, got, e, want, wantError)
		}
		seen[e]++
		if e != api.OK {
			continue
		}
		if back, e := Encode(got); e != api.OK || !bytes.Equal(back, b) {
			t.Fatalf("Encode of what %v tell: %v, %v", b, back, e)
		}
	}
	for _, e := range []api.Errno{api.OK, api.ErrShort, api.ErrKind, api.ErrForm, api.ErrSize} {
		if seen[e] < 500 {
			t.Errorf("%v was seen %d times", e, seen[e])
		}
	}
}

// P9.4: of each number as the first byte, with a place behind it.
func TestFirstByte(t *testing.T) {
	for first := range 256 {
		want := api.ErrKind
		switch {
		case slices.Contains(placed(), first):
			want = api.OK
		case slices.Contains(bare(), first):
			want = api.ErrForm
		case first == api.Scan || first == api.Put:
			want = api.ErrShort
		}
		if _, e := Decode([]byte{byte(first), 1, 'a', 1, 'k'}); e != want {
			t.Errorf("the first byte %d: %v, want %v", first, e, want)
		}
	}
}
