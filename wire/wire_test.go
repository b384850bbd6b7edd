package wire

import (
	"bytes"
	"slices"
	"strings"
	"testing"

	"canopy/api"
	"canopy/txn"
)

// die: numbers that look drawn, the same each time.
type die uint64

func (d *die) n(most int) int {
	*d = *d*6364136223846793005 + 1442695040888963407
	return int(uint64(*d>>33) % uint64(most))
}

func (d *die) bytes(n int) []byte {
	b := make([]byte, n)
	for i := range b {
		b[i] = byte(d.n(256))
	}
	return b
}

var (
	longName  = strings.Repeat("n", api.MaxName)
	longKey   = strings.Repeat("k", api.MaxKey)
	longValue = strings.Repeat("v", api.MaxValue)
)

func ask(kind int, name, key, last, value string) api.Request {
	return api.Request{Kind: kind, Name: []byte(name), Key: []byte(key), Last: []byte(last), Value: []byte(value)}
}

func alone(kind int) api.Request                { return api.Request{Kind: kind} }
func at(kind int, name, key string) api.Request { return ask(kind, name, key, "", "") }
func scan(name, key, last string) api.Request   { return ask(api.Scan, name, key, last, "") }
func put(name, key, value string) api.Request   { return ask(api.Put, name, key, "", value) }

func same(a, b api.Request) bool {
	return a.Kind == b.Kind && bytes.Equal(a.Name, b.Name) && bytes.Equal(a.Key, b.Key) && bytes.Equal(a.Last, b.Last) && bytes.Equal(a.Value, b.Value)
}

func sameRead(a, b api.Read) bool {
	return bytes.Equal(a.Name, b.Name) && bytes.Equal(a.Key, b.Key) && a.Wide == b.Wide && bytes.Equal(a.Last, b.Last)
}

func sameWrite(a, b api.Write) bool {
	return bytes.Equal(a.Name, b.Name) && bytes.Equal(a.Key, b.Key) && a.Gone == b.Gone && bytes.Equal(a.Value, b.Value)
}

// placed: the kinds with a Name and a Key alone; bare: those without parts.
func placed() []int { return []int{api.Get, api.Delete, api.Prove} }
func bare() []int   { return []int{api.Begin, api.Commits, api.Abort} }

// draw a request that may be.
func (d *die) request() api.Request {
	r := api.Request{Kind: api.Begin + d.n(api.Prove)}
	if slices.Contains(bare(), r.Kind) {
		return r
	}
	r.Name, r.Key = d.bytes(1+d.n(api.MaxName)), d.bytes(1+d.n(api.MaxKey))
	if r.Kind == api.Scan {
		r.Last = d.bytes(1 + d.n(api.MaxKey))
	}
	if r.Kind == api.Put {
		r.Value = d.bytes(d.n(api.MaxValue + 1))
	}
	return r
}

// mayBe: requests that P9.2 takes, edges among them.
func mayBe() []api.Request {
	l := []api.Request{
		scan("a", "k", "l"), scan("a", "k", "k"), scan("a", "l", "k"), scan("a", "k", "kk"), scan(longName, longKey, longKey), scan("\x00", "\x00", "\xff"),
		put("a", "k", "v"), put("a", "k", ""), put(longName, longKey, longValue), put("\xff", "\xff", "\xff"), {Kind: api.Put, Name: []byte("a"), Key: []byte("k")},
	}
	for _, kind := range placed() {
		l = append(l, at(kind, "a", "k"), at(kind, "\x00", "\x00"), at(kind, longName, longKey), api.Request{Kind: kind, Name: []byte("a"), Key: []byte("kk")})
	}
	for _, kind := range bare() {
		l = append(l, alone(kind), at(kind, "", ""))
	}
	return l
}

type refused struct {
	what string
	r    api.Request
	want api.Errno
}

// mayNotBe: requests that P9.2 refuses, each with the error that is named first.
func mayNotBe() []refused {
	var l []refused
	for _, kind := range []int{0, -1, 9, 10, 255, 256, 257, 258, 1 << 32, 1<<32 + 2, 1<<63 - 1, -1 << 63} {
		l = append(l, refused{"no such kind, and nothing else", alone(kind), api.ErrKind},
			refused{"no such kind, a place", at(kind, "a", "k"), api.ErrKind},
			refused{"no such kind, all too long", ask(kind, longName+"n", longKey+"k", longKey+"k", longValue+"v"), api.ErrKind})
	}
	for _, kind := range append(placed(), api.Scan, api.Put) {
		l = append(l, wrongPlaces(kind)...)
	}
	for _, kind := range placed() {
		l = append(l, refused{"a last that it does not have", ask(kind, "a", "k", "l", ""), api.ErrForm},
			refused{"a long last that it does not have", ask(kind, "a", "k", longKey+"k", ""), api.ErrForm},
			refused{"a value that it does not have", ask(kind, "a", "k", "", "v"), api.ErrForm},
			refused{"the longest value, that it does not have", ask(kind, "a", "k", "", longValue), api.ErrForm},
			refused{"a value too long, that it does not have", ask(kind, "a", "k", "", longValue+"v"), api.ErrSize},
			refused{"a last that it does not have, a value too long", ask(kind, "a", "k", "l", longValue+"v"), api.ErrSize})
	}
	for _, kind := range bare() {
		l = append(l, refused{"a name that it does not have", ask(kind, "a", "", "", ""), api.ErrForm},
			refused{"a key that it does not have", ask(kind, "", "k", "", ""), api.ErrForm},
			refused{"a last that it does not have", ask(kind, "", "", "l", ""), api.ErrForm},
			refused{"a value that it does not have", ask(kind, "", "", "", "v"), api.ErrForm},
			refused{"a place that it does not have", at(kind, "a", "k"), api.ErrForm},
			refused{"a place too long, that it does not have", ask(kind, longName+"n", longKey+"k", longKey+"k", ""), api.ErrForm},
			refused{"a value too long, that it does not have", ask(kind, "", "", "", longValue+"v"), api.ErrSize},
			refused{"a name that it does not have, a value too long", ask(kind, "a", "", "", longValue+"v"), api.ErrSize})
	}
	return append(l,
		refused{"a scan without a last", scan("a", "k", ""), api.ErrSize},
		refused{"a scan with a last too long", scan("a", "k", longKey+"k"), api.ErrSize},
		refused{"a scan without a last, with a value", ask(api.Scan, "a", "k", "", "v"), api.ErrSize},
		refused{"a scan with a value", ask(api.Scan, "a", "k", "l", "v"), api.ErrForm},
		refused{"a scan with a value too long", ask(api.Scan, "a", "k", "l", longValue+"v"), api.ErrSize},
		refused{"a value too long", put("a", "k", longValue+"v"), api.ErrSize},
		refused{"a value whose length a byte does not tell", put("a", "k", strings.Repeat("v", 256)), api.ErrSize},
		refused{"a put with a last", ask(api.Put, "a", "k", "l", "v"), api.ErrForm},
		refused{"a put with a last too long", ask(api.Put, "a", "k", longKey+"k", "v"), api.ErrForm},
		refused{"a put with a last, a value too long", ask(api.Put, "a", "k", "l", longValue+"v"), api.ErrSize},
	)
}

// wrongPlaces of a kind that has a Name and a Key: these are refused ahead of a part too many.
func wrongPlaces(kind int) []refused {
	return []refused{
		{"nothing but a kind", alone(kind), api.ErrSize},
		{"no name", at(kind, "", "k"), api.ErrSize},
		{"a name too long", at(kind, longName+"n", "k"), api.ErrSize},
		{"a name whose length a byte does not tell", at(kind, strings.Repeat("n", 257), "k"), api.ErrSize},
		{"no name, all else", ask(kind, "", "k", "l", "v"), api.ErrSize},
		{"a name too long, all else", ask(kind, longName+"n", "k", "l", "v"), api.ErrSize},
		{"no key", at(kind, "a", ""), api.ErrSize},
		{"a key too long", at(kind, "a", longKey+"k"), api.ErrSize},
		{"a key whose length a byte does not tell", at(kind, "a", strings.Repeat("k", 257)), api.ErrSize},
		{"no key, all else", ask(kind, "a", "", "l", "v"), api.ErrSize},
		{"a key too long, all else", ask(kind, "a", longKey+"k", "l", "v"), api.ErrSize},
		{"all, with one part too many", ask(kind, "a", "k", "l", "v"), api.ErrForm},
	}
}

// P9.1 and P9.2: the requests that may be, and the error of others that is named first.
func TestCheck(t *testing.T) {
	for _, r := range mayBe() {
		if e := Check(r); e != api.OK {
			t.Errorf("%v: %v", r, e)
		}
	}
	for _, x := range mayNotBe() {
		if e := Check(x.r); e != x.want {
			t.Errorf("%s: %v: %v, want %v", x.what, x.r, e, x.want)
		}
	}
}

// P9.3, P9.5 and P9.6: what Check refuses is refused with the same error, and nothing is told.
func TestOthersRefuseWhatCheckRefuses(t *testing.T) {
	for _, x := range mayNotBe() {
		if b, e := Encode(x.r); len(b) != 0 || e != x.want {
			t.Errorf("Encode: %s: %v: %v, %v, want %v", x.what, x.r, b, e, x.want)
		}
		if r, e := Read(x.r); !sameRead(r, api.Read{}) || e != x.want {
			t.Errorf("Read: %s: %v: %v, %v, want %v", x.what, x.r, r, e, x.want)
		}
		if w, e := Write(x.r); !sameWrite(w, api.Write{}) || e != x.want {
			t.Errorf("Write: %s: %v: %v, %v, want %v", x.what, x.r, w, e, x.want)
		}
	}
}

// P9.5: what a Get or a Scan reads, which a transaction takes; others read nothing.
func TestRead(t *testing.T) {
	seen := map[int]int{}
	for _, r := range someRequests(5) {
		want, wantError := api.Read{}, api.ErrNone
		switch r.Kind {
		case api.Get:
			want, wantError = api.Read{Name: r.Name, Key: r.Key}, api.OK
		case api.Scan:
			want, wantError = api.Read{Name: r.Name, Key: r.Key, Wide: true, Last: r.Last}, api.OK
		}
		got, e := Read(r)
		if e != wantError || !sameRead(got, want) {
			t.Fatalf("%v: %v, %v, want %v, %v", r, got, e, want, wantError)
		}
		if e == api.OK {
			if x, e := txn.Note(api.Txn{}, got); e != api.OK || len(x.Reads) != 1 {
				t.Fatalf("%v: a transaction refuses %v: %v", r, got, e)
			}
		}
		seen[r.Kind]++
	}
	everyKind(t, seen)
}

// P9.6: what a Put or a Delete writes, which a transaction takes; others write nothing.
func TestWrite(t *testing.T) {
	seen := map[int]int{}
	for _, r := range someRequests(6) {
		want, wantError := api.Write{}, api.ErrNone
		switch r.Kind {
		case api.Put:
			want, wantError = api.Write{Name: r.Name, Key: r.Key, Value: r.Value}, api.OK
		case api.Delete:
			want, wantError = api.Write{Name: r.Name, Key: r.Key, Gone: true}, api.OK
		}
		got, e := Write(r)
		if e != wantError || !sameWrite(got, want) {
			t.Fatalf("%v: %v, %v, want %v, %v", r, got, e, want, wantError)
		}
		if e == api.OK {
			if x, e := txn.Write(api.Txn{}, got); e != api.OK || len(x.Writes) != 1 {
				t.Fatalf("%v: a transaction refuses %v: %v", r, got, e)
			}
		}
		seen[r.Kind]++
	}
	everyKind(t, seen)
}

// someRequests that may be: the edges, and drawn ones.
func someRequests(seed die) []api.Request {
	l := mayBe()
	for range 500 {
		l = append(l, seed.request())
	}
	return l
}

func everyKind(t *testing.T, seen map[int]int) {
	t.Helper()
	for kind := api.Begin; kind <= api.Prove; kind++ {
		if seen[kind] == 0 {
			t.Errorf("no request of the kind %d", kind)
		}
	}
}
