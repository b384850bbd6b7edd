package tape

import (
	"bytes"
	"encoding/hex"
	"math"
	"slices"
	"testing"

	"canopy/api"
	"canopy/digest"
)

func sameTape(a, b api.Tape) bool { return bytes.Equal(a.Data, b.Data) && a.Synced == b.Synced }

func wantTape(t *testing.T, what string, got api.Tape, e api.Errno, want api.Tape) {
	t.Helper()
	if e != api.OK || !sameTape(got, want) {
		t.Errorf("%s: %v, %v, want %v", what, got, e, want)
	}
}

func wantNoTape(t *testing.T, what string, got api.Tape, e, want api.Errno) {
	t.Helper()
	if e != want || !sameTape(got, api.Tape{}) {
		t.Errorf("%s: %v, %v, want %v", what, got, e, want)
	}
}

// bare: bytes of which so many are synced.
func bare(data string, synced int) api.Tape { return api.Tape{Data: []byte(data), Synced: synced} }

func unhex(t *testing.T, text string) []byte {
	t.Helper()
	b, e := hex.DecodeString(text)
	if e != nil {
		t.Fatal(e)
	}
	return b
}

// wordedRecord: bytes as P6.5 words them, whatever they tell.
func wordedRecord(b []byte) []byte {
	out := append([]byte{byte(len(b) / 256), byte(len(b) % 256)}, b...)
	sum, _ := digest.Sum(out)
	return append(out, sum[:4]...)
}

func recordOf(c api.Commit) []byte { return wordedRecord(wordedBytes(c)) }

// badTapes: such as P6.1 rules out.
func badTapes() map[string]api.Tape {
	return map[string]api.Tape{
		"too many bytes":         {Data: make([]byte, api.MaxBytes+1)},
		"too many, all synced":   {Data: make([]byte, api.MaxBytes+1), Synced: api.MaxBytes + 1},
		"synced below 0":         {Data: []byte("ab"), Synced: -1},
		"synced beyond":          {Data: []byte("ab"), Synced: 3},
		"synced beyond nothing":  {Synced: 1},
		"synced below nothing":   {Synced: -1},
		"synced far beyond":      {Data: []byte("ab"), Synced: math.MaxInt},
		"synced far below":       {Data: []byte("ab"), Synced: math.MinInt},
		"synced into spare room": {Data: []byte("abc")[:2], Synced: 3},
	}
}

// P6.1: no call takes a tape that may not be, and this is told ahead of all else.
func TestBadTapes(t *testing.T) {
	for what, bad := range badTapes() {
		for _, c := range []api.Commit{commit(1, put("a", "k", "v")), {}} {
			got, e := Append(bad, c)
			wantNoTape(t, what+": Append", got, e, api.ErrState)
		}
		got, e := Sync(bad)
		wantNoTape(t, what+": Sync", got, e, api.ErrState)
		for _, keep := range []int{0, 1, -1} {
			got, e = Crash(bad, keep)
			wantNoTape(t, what+": Crash", got, e, api.ErrState)
		}
		l, got, e := Recover(bad)
		wantNoTape(t, what+": Recover", got, e, api.ErrState)
		if len(l) != 0 {
			t.Errorf("%s: Recover: %v", what, l)
		}
	}
}

// P6.1: as many bytes as there may be.
func TestGreatestTape(t *testing.T) {
	data := make([]byte, api.MaxBytes)
	for _, synced := range []int{0, 1, api.MaxBytes - 1, api.MaxBytes} {
		great := api.Tape{Data: data, Synced: synced}
		got, e := Sync(great)
		wantTape(t, "Sync", got, e, api.Tape{Data: data, Synced: api.MaxBytes})
		got, e = Crash(great, 0)
		wantTape(t, "Crash", got, e, api.Tape{Data: data[:synced], Synced: synced})
		l, got, e := Recover(great)
		wantTape(t, "Recover", got, e, api.Tape{})
		if len(l) != 0 {
			t.Errorf("Recover: %v", l)
		}
		got, e = Append(great, commit(1, gone("a", "k")))
		wantNoTape(t, "Append", got, e, api.ErrFull)
	}
}

// P6.5: bytes that another program has written.
func TestAppendFixed(t *testing.T) {
	tp := api.Tape{}
	for i, s := range []struct {
		c    api.Commit
		want string
	}{
		{commit(1, put("a", "k", "\x07")), "000a000001010161016b0107c891e0ed"},
		{commit(2, gone("a", "k"), put("bc", "lm", "")), "0010000002020161016bff026263026c6d00bf5de9df"},
		{commit(api.MaxTurns, put("a", "k", "\x07")), "000a100000010161016b010760a94ae6"},
	} {
		want := append(slices.Clone(tp.Data), unhex(t, s.want)...)
		got, e := Append(tp, s.c)
		wantTape(t, "Append "+string(rune('0'+i)), got, e, api.Tape{Data: want})
		tp = got
	}
	got, e := Append(api.Tape{}, longest(3))
	if e != api.OK || len(got.Data) != 600 || !bytes.HasPrefix(got.Data, unhex(t, "02520000030a086e6e")) || !bytes.HasSuffix(got.Data, unhex(t, "7676763980c5ce")) {
		t.Errorf("Append of the longest: %x, %v", got.Data, e)
	}
}

// P6.5: it stands behind all that is there, whatever that is; what is synced stays as it is.
func TestAppend(t *testing.T) {
	for what, c := range mayBe() {
		for _, tp := range []api.Tape{{}, bare("no commits", 0), bare("no commits", 4), bare("no commits", 10), {Data: recordOf(commit(1, gone("a", "k"))), Synced: 3}} {
			got, e := Append(tp, c)
			wantTape(t, what, got, e, api.Tape{Data: append(slices.Clone(tp.Data), recordOf(c)...), Synced: tp.Synced})
		}
	}
}

// P6.5: what is refused; what Check refuses is told ahead of what has no room.
func TestAppendRefuses(t *testing.T) {
	full := api.Tape{Data: make([]byte, api.MaxBytes)}
	for _, r := range mayNotBe() {
		for _, tp := range []api.Tape{{}, bare("ab", 1), full} {
			got, e := Append(tp, r.c)
			wantNoTape(t, r.what, got, e, r.want)
		}
	}
	for _, c := range []api.Commit{commit(1, put("a", "k", "v")), longest(1)} {
		room := api.MaxBytes - len(recordOf(c))
		got, e := Append(api.Tape{Data: make([]byte, room), Synced: 5}, c)
		wantTape(t, "room for it", got, e, api.Tape{Data: append(make([]byte, room), recordOf(c)...), Synced: 5})
		got, e = Append(api.Tape{Data: make([]byte, room+1), Synced: 5}, c)
		wantNoTape(t, "a byte too many", got, e, api.ErrFull)
	}
}

// P6.6: all bytes are synced, and stay as they are.
func TestSync(t *testing.T) {
	for _, tp := range []api.Tape{{}, {Data: []byte{}}, bare("a", 0), bare("a", 1), bare("abc", 0), bare("abc", 2), bare("abc", 3)} {
		got, e := Sync(tp)
		wantTape(t, "Sync", got, e, api.Tape{Data: tp.Data, Synced: len(tp.Data)})
	}
}

// P6.7: what a crash leaves.
func TestCrash(t *testing.T) {
	for _, s := range []struct {
		tp   api.Tape
		keep int
		left string
	}{
		{api.Tape{}, 0, ""},
		{api.Tape{}, 9, ""},
		{bare("abc", 0), 0, ""},
		{bare("abc", 1), 0, "a"},
		{bare("abc", 1), 1, "ab"},
		{bare("abc", 1), 2, "abc"},
		{bare("abc", 1), 3, "abc"},
		{bare("abc", 3), 0, "abc"},
		{bare("abc", 3), 1, "abc"},
		{bare("abc", 0), 2, "ab"},
		{bare("abc", 0), math.MaxInt, "abc"},
		{bare("abc", 2), math.MaxInt, "abc"},
		{bare("abc", 2), math.MaxInt - 1, "abc"},
		{api.Tape{Data: []byte("abcdef")[:3], Synced: 1}, 4, "abc"},
	} {
		got, e := Crash(s.tp, s.keep)
		wantTape(t, "Crash", got, e, bare(s.left, len(s.left)))
	}
	for _, keep := range []int{-1, -2, math.MinInt} {
		for _, tp := range []api.Tape{{}, bare("abc", 0), bare("abc", 2), bare("abc", 3)} {
			got, e := Crash(tp, keep)
			wantNoTape(t, "Crash", got, e, api.ErrRange)
		}
	}
}
