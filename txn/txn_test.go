package txn

import (
	"bytes"
	"math"
	"slices"
	"strings"
	"testing"

	"canopy/api"
)

// die: numbers that look drawn, the same each time.
type die uint64

func (d *die) n(most int) int {
	*d = *d*6364136223846793005 + 1442695040888963407
	return int(uint64(*d>>33) % uint64(most))
}

// text: of few bytes of few kinds, so that texts meet, and begin with one another.
func (d *die) text() []byte {
	text := make([]byte, 1+d.n(2))
	for i := range text {
		text[i] = []byte{0, 'a', 255}[d.n(3)]
	}
	return text
}

// write that may be.
func (d *die) write() api.Write {
	w := api.Write{Name: d.text(), Key: d.text(), Gone: d.n(3) == 0}
	if !w.Gone {
		w.Value = []byte{'1', '2', '3'}[:d.n(3)]
	}
	return w
}

// read that may be.
func (d *die) read() api.Read {
	r := api.Read{Name: d.text(), Key: d.text(), Wide: d.n(2) == 0}
	if r.Wide {
		r.Last = d.text()
	}
	return r
}

func put(name, key, value string) api.Write {
	return api.Write{Name: []byte(name), Key: []byte(key), Value: []byte(value)}
}

func gone(name, key string) api.Write {
	return api.Write{Name: []byte(name), Key: []byte(key), Gone: true}
}

func gonePut(name, key, value string) api.Write {
	w := put(name, key, value)
	w.Gone = true
	return w
}

func one(name, key string) api.Read { return api.Read{Name: []byte(name), Key: []byte(key)} }

func wide(name, key, last string) api.Read {
	return api.Read{Name: []byte(name), Key: []byte(key), Wide: true, Last: []byte(last)}
}

// oneLast: a read that is not Wide, but has a Last.
func oneLast(name, key, last string) api.Read {
	r := wide(name, key, last)
	r.Wide = false
	return r
}

func reads(l ...api.Read) []api.Read { return l }

func writes(l ...api.Write) []api.Write { return l }

// manyReads: so many reads, each of another key.
func manyReads(n int) []api.Read {
	var out []api.Read
	for i := range n {
		out = append(out, one("a", string([]byte{byte(i)})))
	}
	return out
}

// manyWrites: so many writes, each of another key.
func manyWrites(n int) []api.Write {
	var out []api.Write
	for i := range n {
		out = append(out, put("a", string([]byte{byte(i)}), "v"))
	}
	return out
}

func sameRead(a, b api.Read) bool {
	return string(a.Name) == string(b.Name) && string(a.Key) == string(b.Key) && a.Wide == b.Wide && string(a.Last) == string(b.Last)
}

func sameWrite(a, b api.Write) bool {
	return string(a.Name) == string(b.Name) && string(a.Key) == string(b.Key) && a.Gone == b.Gone && string(a.Value) == string(b.Value)
}

func sameTxn(a, b api.Txn) bool {
	return a.Start == b.Start && slices.EqualFunc(a.Reads, b.Reads, sameRead) && slices.EqualFunc(a.Writes, b.Writes, sameWrite)
}

var (
	longName  = strings.Repeat("n", api.MaxName)
	longKey   = strings.Repeat("k", api.MaxKey)
	longValue = strings.Repeat("v", api.MaxValue)
)

// goodReads that may be, edges among them; no two are the same.
func goodReads() []api.Read {
	return reads(
		one("a", "k"), one("b", "k"), one("a", "l"), one("ak", "k"), one("a", "kk"), one("\x00", "\x00"), one("\xff", "\xff"), one(longName, longKey),
		wide("a", "k", "k"), wide("a", "k", "l"), wide("a", "l", "k"), wide("b", "k", "l"), wide("a", "kk", "l"), wide("a", "k", "kl"),
		wide(longName, longKey, longKey), wide("a", "\xff", "\x00"),
	)
}

// goodWrites that may be, edges among them; no two have one place.
func goodWrites() []api.Write {
	return writes(
		put("a", "k", "v"), put("b", "k", "v"), put("a", "l", ""), put("ak", "k", "v"), put("a", "kk", "v"), gone("k", "a"),
		put(longName, longKey, longValue), gone("c", longKey), put("\x00", "\x00", "\x00"), api.Write{Name: []byte("d"), Key: []byte("k"), Gone: true, Value: []byte{}},
	)
}

type wrongRead struct {
	what string
	r    api.Read
	want api.Errno
}

func wrongReads() []wrongRead {
	return []wrongRead{
		{"nothing", api.Read{}, api.ErrSize},
		{"no name", one("", "k"), api.ErrSize},
		{"a long name", one(longName+"n", "k"), api.ErrSize},
		{"no key", one("a", ""), api.ErrSize},
		{"a long key", one("a", longKey+"k"), api.ErrSize},
		{"Wide, no name", wide("", "k", "l"), api.ErrSize},
		{"Wide, no key", wide("a", "", "l"), api.ErrSize},
		{"Wide, a long key", wide("a", longKey+"k", "l"), api.ErrSize},
		{"Wide, no last", wide("a", "k", ""), api.ErrSize},
		{"Wide, a long last", wide("a", "k", longKey+"k"), api.ErrSize},
		{"not Wide, a last", oneLast("a", "k", "l"), api.ErrForm},
		{"not Wide, a last that is the key", oneLast("a", "k", "k"), api.ErrForm},
		{"not Wide, a long last", oneLast("a", "k", longKey+"k"), api.ErrForm},
		{"not Wide, a last, no name", oneLast("", "k", "l"), api.ErrSize},
		{"not Wide, a last, a long name", oneLast(longName+"n", "k", "l"), api.ErrSize},
		{"not Wide, a last, no key", oneLast("a", "", "l"), api.ErrSize},
		{"not Wide, a last, a long key", oneLast("a", longKey+"k", "l"), api.ErrSize},
	}
}

type wrongWrite struct {
	what string
	w    api.Write
	want api.Errno
}

func wrongWrites() []wrongWrite {
	return []wrongWrite{
		{"nothing", api.Write{}, api.ErrSize},
		{"no name", put("", "k", "v"), api.ErrSize},
		{"a long name", put(longName+"n", "k", "v"), api.ErrSize},
		{"no key", put("a", "", "v"), api.ErrSize},
		{"a long key", put("a", longKey+"k", "v"), api.ErrSize},
		{"a long value", put("a", "k", longValue+"v"), api.ErrSize},
		{"Gone, no name", gone("", "k"), api.ErrSize},
		{"Gone, no key", gone("a", ""), api.ErrSize},
		{"Gone, a long key", gone("a", longKey+"k"), api.ErrSize},
		{"Gone, a value", gonePut("a", "k", "v"), api.ErrForm},
		{"Gone, a long value", gonePut("a", "k", longValue+"v"), api.ErrForm},
		{"Gone, a value, no name", gonePut("", "k", "v"), api.ErrSize},
		{"Gone, a value, a long name", gonePut(longName+"n", "k", "v"), api.ErrSize},
		{"Gone, a value, no key", gonePut("a", "", "v"), api.ErrSize},
		{"Gone, a value, a long key", gonePut("a", longKey+"k", "v"), api.ErrSize},
	}
}

// mayBe: transactions that P8.2 takes, edges among them.
func mayBe() map[string]api.Txn {
	return map[string]api.Txn{
		"nothing":                 {},
		"empty lists":             {Reads: reads(), Writes: writes()},
		"the last turn":           {Start: api.MaxTurns},
		"a read":                  {Start: 1, Reads: reads(one("a", "k"))},
		"a read, an empty list":   {Reads: reads(api.Read{Name: []byte("a"), Key: []byte("k"), Last: []byte{}})},
		"a write":                 {Start: 1, Writes: writes(put("a", "k", "v"))},
		"a write of what is read": {Reads: reads(one("a", "k")), Writes: writes(put("a", "k", "v"))},
		"many":                    {Start: 3, Reads: goodReads(), Writes: goodWrites()},
		"as many as there may be": {Start: 3, Reads: manyReads(api.MaxReads), Writes: manyWrites(api.MaxWrites)},
	}
}

type wrongTxn struct {
	what string
	t    api.Txn
	want api.Errno
}

// wrongTxns: what may not be, and which error is named first.
func wrongTxns() []wrongTxn {
	r, badRead, w, badWrite := one("a", "k"), oneLast("a", "k", "l"), put("a", "k", "v"), gonePut("a", "k", "v")
	emptyLast := r
	emptyLast.Last = []byte{}
	manyR, manyW := manyReads(api.MaxReads), manyWrites(api.MaxWrites)
	out := []wrongTxn{
		{"a start below 0", api.Txn{Start: -1}, api.ErrRange},
		{"the least start", api.Txn{Start: math.MinInt}, api.ErrRange},
		{"a start beyond all", api.Txn{Start: api.MaxTurns + 1}, api.ErrRange},
		{"the greatest start", api.Txn{Start: math.MaxInt}, api.ErrRange},
		{"a wrong start, too many reads", api.Txn{Start: -1, Reads: manyReads(api.MaxReads + 1)}, api.ErrRange},
		{"a wrong start, a wrong read", api.Txn{Start: -1, Reads: reads(badRead)}, api.ErrRange},
		{"a wrong start, a wrong write", api.Txn{Start: api.MaxTurns + 1, Writes: writes(badWrite)}, api.ErrRange},
		{"a read too many", api.Txn{Reads: manyReads(api.MaxReads + 1)}, api.ErrSize},
		{"a write too many", api.Txn{Writes: manyWrites(api.MaxWrites + 1)}, api.ErrSize},
		{"a read too many, wrong ones", api.Txn{Reads: slices.Repeat(reads(badRead), api.MaxReads+1)}, api.ErrSize},
		{"a read too many, all the same", api.Txn{Reads: slices.Repeat(reads(r), api.MaxReads+1)}, api.ErrSize},
		{"a write too many, wrong ones", api.Txn{Writes: slices.Repeat(writes(badWrite), api.MaxWrites+1)}, api.ErrSize},
		{"a write too many, all at one place", api.Txn{Writes: slices.Repeat(writes(w), api.MaxWrites+1)}, api.ErrSize},
		{"a write too many, a wrong read", api.Txn{Reads: reads(badRead), Writes: manyWrites(api.MaxWrites + 1)}, api.ErrSize},
		{"a write too many, a read twice", api.Txn{Reads: reads(r, r), Writes: manyWrites(api.MaxWrites + 1)}, api.ErrSize},
		{"a read twice", api.Txn{Reads: reads(r, r)}, api.ErrOrder},
		{"a read twice, others between", api.Txn{Reads: append(goodReads(), r)}, api.ErrOrder},
		{"a read twice, an empty list", api.Txn{Reads: reads(r, emptyLast)}, api.ErrOrder},
		{"a wide read twice", api.Txn{Reads: reads(wide("a", "k", "l"), r, wide("a", "k", "l"))}, api.ErrOrder},
		{"the last read twice", api.Txn{Reads: append(manyR[:api.MaxReads-1:api.MaxReads-1], manyR[0])}, api.ErrOrder},
		{"a write twice", api.Txn{Writes: writes(w, w)}, api.ErrOrder},
		{"a place twice, another value", api.Txn{Writes: writes(w, put("a", "k", "w"))}, api.ErrOrder},
		{"a place twice, Gone", api.Txn{Writes: writes(w, put("b", "k", "v"), gone("a", "k"))}, api.ErrOrder},
		{"the last place twice", api.Txn{Writes: append(manyW[:api.MaxWrites-1:api.MaxWrites-1], manyW[0])}, api.ErrOrder},
		{"a wrong read, then one twice", api.Txn{Reads: reads(badRead, r, r)}, api.ErrForm},
		{"a read twice, then a wrong one", api.Txn{Reads: reads(r, r, badRead)}, api.ErrOrder},
		{"a wrong read twice", api.Txn{Reads: reads(badRead, badRead)}, api.ErrForm},
		{"a wrong write, then one twice", api.Txn{Writes: writes(gonePut("b", "k", "v"), w, w)}, api.ErrForm},
		{"a write twice, then a wrong one", api.Txn{Writes: writes(w, w, badWrite)}, api.ErrOrder},
		{"a wrong write at a place that is had", api.Txn{Writes: writes(w, badWrite)}, api.ErrForm},
		{"a wrong read and a wrong write", api.Txn{Reads: reads(r, badRead), Writes: writes(put("", "k", "v"))}, api.ErrForm},
		{"a read twice and a wrong write", api.Txn{Reads: reads(r, r), Writes: writes(badWrite)}, api.ErrOrder},
		{"a write twice and a wrong read", api.Txn{Reads: reads(badRead), Writes: writes(w, w)}, api.ErrForm},
	}
	for _, c := range wrongReads() {
		out = append(out, wrongTxn{"a read: " + c.what, api.Txn{Reads: reads(c.r)}, c.want}, wrongTxn{"the last read: " + c.what, api.Txn{Reads: append(manyReads(api.MaxReads-1), c.r)}, c.want})
	}
	for _, c := range wrongWrites() {
		out = append(out, wrongTxn{"a write: " + c.what, api.Txn{Writes: writes(c.w)}, c.want}, wrongTxn{"the last write: " + c.what, api.Txn{Writes: append(manyWrites(api.MaxWrites-1), c.w)}, c.want})
	}
	return out
}

// P8.1, P8.2: what may be.
func TestCheck(t *testing.T) {
	for what, x := range mayBe() {
		if e := Check(x); e != api.OK {
			t.Errorf("%s: %v", what, e)
		}
	}
	for _, r := range goodReads() {
		if e := Check(api.Txn{Reads: reads(r)}); e != api.OK {
			t.Errorf("read %v: %v", r, e)
		}
	}
	for _, w := range goodWrites() {
		if e := Check(api.Txn{Writes: writes(w)}); e != api.OK {
			t.Errorf("write %v: %v", w, e)
		}
	}
}

// P8.1, P8.2: what may not be is refused; the other calls refuse it with the same error, ahead of all else.
func TestWrongTxns(t *testing.T) {
	for _, c := range wrongTxns() {
		if e := Check(c.t); e != c.want {
			t.Errorf("Check of %s: %v, want %v", c.what, e, c.want)
		}
		for _, r := range reads(one("b", "k"), one("a", "k"), oneLast("a", "k", "l"), api.Read{}) {
			if x, e := Note(c.t, r); !sameTxn(x, api.Txn{}) || e != c.want {
				t.Errorf("Note of %v at %s: %v, %v, want %v", r, c.what, x, e, c.want)
			}
		}
		for _, w := range writes(put("b", "k", "v"), put("a", "k", "v"), gonePut("a", "k", "v"), api.Write{}) {
			if x, e := Write(c.t, w); !sameTxn(x, api.Txn{}) || e != c.want {
				t.Errorf("Write of %v at %s: %v, %v, want %v", w, c.what, x, e, c.want)
			}
		}
		for _, key := range []string{"k", "x", "", longKey + "k"} {
			for _, name := range []string{"a", "", longName + "n"} {
				if f, own, e := Look(nil, c.t, []byte(name), []byte(key)); f.Found || len(f.Value) != 0 || own || e != c.want {
					t.Errorf("Look at %s: %v, %v, %v, want %v", c.what, f, own, e, c.want)
				}
				if l, e := Scan(nil, c.t, []byte(name), []byte(key), []byte("z")); len(l) != 0 || e != c.want {
					t.Errorf("Scan at %s: %v, %v, want %v", c.what, l, e, c.want)
				}
			}
		}
		for _, l := range [][]api.Commit{nil, {commit(math.MaxInt, put("a", "k", "v"))}} {
			if clash, e := Clash(c.t, l); clash || e != c.want {
				t.Errorf("Clash at %s: %v, %v, want %v", c.what, clash, e, c.want)
			}
		}
	}
}

// P8.3: a read stands behind the others, once.
func TestNote(t *testing.T) {
	ws := goodWrites()
	want := api.Txn{Start: 5, Writes: ws}
	got := want
	for _, r := range goodReads() {
		want.Reads = append(want.Reads, r)
		// once more: it stays where it is
		for _, again := range append(reads(r), want.Reads...) {
			var e api.Errno
			if got, e = Note(got, again); e != api.OK || !sameTxn(got, want) {
				t.Fatalf("Note of %v: %v, %v, want %v", again, got, e, want)
			}
		}
	}
	emptyLast := one("a", "k")
	emptyLast.Last = []byte{}
	if again, e := Note(got, emptyLast); e != api.OK || !sameTxn(again, want) {
		t.Errorf("Note with an empty list: %v, %v, want %v", again, e, want)
	}
}

// P8.3: what is refused; at as many reads as there may be those that are there may come again.
func TestNoteRefuses(t *testing.T) {
	full := api.Txn{Start: 1, Reads: manyReads(api.MaxReads), Writes: goodWrites()}
	less := api.Txn{Start: 1, Reads: manyReads(api.MaxReads - 1), Writes: goodWrites()}
	for _, x := range []api.Txn{{}, less, full} {
		for _, c := range wrongReads() {
			if got, e := Note(x, c.r); !sameTxn(got, api.Txn{}) || e != c.want {
				t.Errorf("Note of %s: %v, %v, want %v", c.what, got, e, c.want)
			}
		}
	}
	last := full.Reads[api.MaxReads-1]
	if got, e := Note(less, last); e != api.OK || !sameTxn(got, full) {
		t.Errorf("the last one for which there is room: %v, %v", got, e)
	}
	for _, r := range full.Reads {
		if got, e := Note(full, r); e != api.OK || !sameTxn(got, full) {
			t.Errorf("Note of what is there: %v, %v", got, e)
		}
	}
	for _, r := range reads(one("b", "\x00"), one("a", "\x00\x00"), wide("a", "\x00", "\x00"), wide("a", "\x00", "\xff")) {
		if got, e := Note(full, r); !sameTxn(got, api.Txn{}) || e != api.ErrFull {
			t.Errorf("Note of one too many: %v, %v", got, e)
		}
	}
}

// P8.4: a write stands in place of the one with its place, or behind all.
func TestWrite(t *testing.T) {
	a, b, c := put("a", "k", "1"), gone("b", "k"), put("a", "l", "")
	for _, x := range []struct {
		what string
		l    []api.Write
		w    api.Write
		want []api.Write
	}{
		{"a first one", nil, a, writes(a)},
		{"a first one, Gone", nil, b, writes(b)},
		{"behind all", writes(b, c), a, writes(b, c, a)},
		{"the same", writes(a, b, c), a, writes(a, b, c)},
		{"another value", writes(a, b, c), put("a", "k", "2"), writes(put("a", "k", "2"), b, c)},
		{"no value", writes(b, a, c), put("a", "k", ""), writes(b, put("a", "k", ""), c)},
		{"a value", writes(b, a, c), put("a", "l", "3"), writes(b, a, put("a", "l", "3"))},
		{"a put that is Gone", writes(b, a, c), gone("a", "k"), writes(b, gone("a", "k"), c)},
		{"a Gone one that is put", writes(a, b, c), put("b", "k", "2"), writes(a, put("b", "k", "2"), c)},
		{"name and key as one text", writes(put("ab", "c", "1")), put("a", "bc", "2"), writes(put("ab", "c", "1"), put("a", "bc", "2"))},
		{"name and key changed round", writes(put("a", "b", "1")), put("b", "a", "2"), writes(put("a", "b", "1"), put("b", "a", "2"))},
		{"a longer key", writes(a), put("a", "kk", "2"), writes(a, put("a", "kk", "2"))},
		{"not by names and keys", writes(put("z", "z", "1")), a, writes(put("z", "z", "1"), a)},
	} {
		before := api.Txn{Start: 7, Reads: goodReads(), Writes: x.l}
		want := api.Txn{Start: 7, Reads: goodReads(), Writes: x.want}
		if got, e := Write(before, x.w); e != api.OK || !sameTxn(got, want) {
			t.Errorf("%s: %v, %v, want %v", x.what, got, e, want)
		}
	}
}

// P8.4: what is refused; at as many writes as there may be those that are there may be replaced.
func TestWriteRefuses(t *testing.T) {
	full := api.Txn{Start: 1, Reads: goodReads(), Writes: manyWrites(api.MaxWrites)}
	less := api.Txn{Start: 1, Reads: goodReads(), Writes: manyWrites(api.MaxWrites - 1)}
	had := api.Txn{Writes: writes(put("a", "k", "1"))}
	for _, x := range []api.Txn{{}, had, less, full} {
		for _, c := range wrongWrites() {
			if got, e := Write(x, c.w); !sameTxn(got, api.Txn{}) || e != c.want {
				t.Errorf("Write of %s: %v, %v, want %v", c.what, got, e, c.want)
			}
		}
	}
	if got, e := Write(less, full.Writes[api.MaxWrites-1]); e != api.OK || !sameTxn(got, full) {
		t.Errorf("the last one for which there is room: %v, %v", got, e)
	}
	for i, w := range full.Writes {
		want := full
		want.Writes = slices.Clone(full.Writes)
		want.Writes[i] = gone(string(w.Name), string(w.Key))
		if got, e := Write(full, want.Writes[i]); e != api.OK || !sameTxn(got, want) {
			t.Errorf("Write of what is there: %v, %v, want %v", got, e, want)
		}
	}
	for _, w := range writes(put("b", "\x00", "v"), put("a", "\x00\x00", "v"), gone("a", "k")) {
		if got, e := Write(full, w); !sameTxn(got, api.Txn{}) || e != api.ErrFull {
			t.Errorf("Write of one too many: %v, %v", got, e)
		}
	}
}

// wordedNote and wordedWrite: as the chapter words it, of what may be.
func wordedNote(t api.Txn, r api.Read) (api.Txn, api.Errno) {
	for _, x := range t.Reads {
		if sameRead(x, r) {
			return t, api.OK
		}
	}
	if len(t.Reads) >= api.MaxReads {
		return api.Txn{}, api.ErrFull
	}
	t.Reads = append(slices.Clone(t.Reads), r)
	return t, api.OK
}

func wordedWrite(t api.Txn, w api.Write) (api.Txn, api.Errno) {
	t.Writes = slices.Clone(t.Writes)
	for i, x := range t.Writes {
		if bytes.Equal(x.Name, w.Name) && bytes.Equal(x.Key, w.Key) {
			t.Writes[i] = w
			return t, api.OK
		}
	}
	if len(t.Writes) >= api.MaxWrites {
		return api.Txn{}, api.ErrFull
	}
	t.Writes = append(t.Writes, w)
	return t, api.OK
}

// txn that looks drawn, noted and written one behind the other; what comes of it may be.
func (d *die) txn(t *testing.T, seen map[api.Errno]int) api.Txn {
	t.Helper()
	x := api.Txn{Start: d.n(5)}
	for range d.n(60) {
		var got, want api.Txn
		var e, wantE api.Errno
		if d.n(2) == 0 {
			r := d.read()
			got, e = Note(x, r)
			want, wantE = wordedNote(x, r)
		} else {
			w := d.write()
			got, e = Write(x, w)
			want, wantE = wordedWrite(x, w)
		}
		seen[e]++
		if e != wantE || !sameTxn(got, want) {
			t.Fatalf("at %v: %v, %v, want %v, %v", x, got, e, want, wantE)
		}
		if e == api.OK {
			x = got
		}
		if Check(x) != api.OK {
			t.Fatalf("%v may not be", x)
		}
	}
	return x
}

// P8.3, P8.4: as the chapter words it, in drawn transactions.
func TestDrawnTxns(t *testing.T) {
	d := die(8)
	seen := map[api.Errno]int{}
	for range 500 {
		d.txn(t, seen)
	}
	if seen[api.OK] < 1000 || seen[api.ErrFull] < 100 {
		t.Errorf("outcomes: %v", seen)
	}
}
