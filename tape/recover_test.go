package tape

import (
	"bytes"
	"slices"
	"testing"

	"canopy/api"
)

func wantRecovered(t *testing.T, what string, tp api.Tape, l []api.Commit, left api.Tape) {
	t.Helper()
	got, cut, e := Recover(tp)
	if e != api.OK || !sameCommits(got, l) || !sameTape(cut, left) {
		t.Fatalf("%s: Recover of %v: %v, %v, %v, want %v, %v", what, tp, got, cut, e, l, left)
	}
}

// laid: commits, and the tape on which they stand; ends: where each of them ends.
func laid(l []api.Commit) (data []byte, ends []int) {
	for _, c := range l {
		data = append(data, recordOf(c)...)
		ends = append(ends, len(data))
	}
	return data, ends
}

func (d *die) commits(n int) []api.Commit {
	var l []api.Commit
	for i := range n {
		l = append(l, d.commit(i+1))
	}
	return l
}

// P6.8: all commits of a whole tape; nothing of an empty one.
func TestRecoverWhole(t *testing.T) {
	wantRecovered(t, "nothing", api.Tape{}, nil, api.Tape{})
	d := die(3)
	for n := 1; n < 30; n++ {
		l := d.commits(n)
		data, _ := laid(l)
		for _, synced := range []int{0, 1, d.n(len(data)), len(data)} {
			tp := api.Tape{Data: data, Synced: synced}
			wantRecovered(t, "whole", tp, l, tp)
		}
	}
}

// P6.8: bytes that another program has written.
func TestRecoverFixed(t *testing.T) {
	data := unhex(t, "000a000001010161016b0107c891e0ed"+"0010000002020161016bff026263026c6d00bf5de9df"+"000a100000010161016b010760a94ae6")
	l := []api.Commit{commit(1, put("a", "k", "\x07")), commit(2, gone("a", "k"), put("bc", "lm", ""))}
	wantRecovered(t, "fixed", api.Tape{Data: data, Synced: 50}, l, api.Tape{Data: data[:38], Synced: 38})
}

// P6.8: a tape that ends anywhere has the commits that end ahead of that, whatever is synced.
func TestRecoverCut(t *testing.T) {
	l := []api.Commit{commit(1, put("a", "k", "v")), longest(2), commit(3, gone("a", "k"))}
	data, ends := laid(l)
	for n := range len(data) + 1 {
		whole, end := 0, 0
		for i, e := range ends {
			if e <= n {
				whole, end = i+1, e
			}
		}
		for _, synced := range []int{0, min(n, end+1), n} {
			wantRecovered(t, "cut", api.Tape{Data: data[:n:n], Synced: synced}, l[:whole], api.Tape{Data: data[:end], Synced: min(synced, end)})
			// The bytes that follow in spare room are none of the tape's.
			wantRecovered(t, "cut, with spare room", api.Tape{Data: data[:n], Synced: synced}, l[:whole], api.Tape{Data: data[:end], Synced: min(synced, end)})
		}
	}
}

// P6.8: a byte that is another one anywhere ends what is recovered ahead of its commit.
func TestRecoverSpoilt(t *testing.T) {
	l := []api.Commit{commit(1, put("a", "k", "v")), commit(2, gone("b", "l"), put("a", "kk", "")), commit(3, gone("a", "k"))}
	data, ends := laid(l)
	for at := range data {
		whole := 0
		for ends[whole] <= at {
			whole++
		}
		end := 0
		if whole > 0 {
			end = ends[whole-1]
		}
		for _, flip := range []byte{1, 2, 128, 255} {
			bad := slices.Clone(data)
			bad[at] ^= flip
			wantRecovered(t, "spoilt", api.Tape{Data: bad, Synced: len(bad)}, l[:whole], api.Tape{Data: data[:end], Synced: end})
		}
	}
}

// P6.8: what has right four bytes, but is not such as Decode takes, or has not the next Turn, is none.
func TestRecoverStops(t *testing.T) {
	one, two := commit(1, put("a", "k", "v")), commit(2, gone("a", "k"))
	good := recordOf(one)
	for _, s := range []struct {
		what string
		next []byte
	}{
		{"the same turn", recordOf(commit(1, gone("a", "k")))},
		{"the same commit", good},
		{"a turn left out", recordOf(commit(3, gone("a", "k")))},
		{"turn 0", recordOf(commit(0, gone("a", "k")))},
		{"turn 2 and three bytes more", recordOf(commit(2+1<<20, gone("a", "k")))},
		{"no bytes", wordedRecord(nil)},
		{"a byte too few", wordedRecord(wordedBytes(two)[:len(wordedBytes(two))-1])},
		{"a byte too many", wordedRecord(append(wordedBytes(two), 0))},
		{"no writes", recordOf(commit(2))},
		{"too many writes", recordOf(commit(2, slices.Repeat(two.Writes, api.MaxWrites+1)...))},
		{"no key", recordOf(commit(2, put("a", "", "v")))},
		{"a long value", recordOf(commit(2, put("a", "k", string(make([]byte, api.MaxValue+1)))))},
		{"MaxData bytes with the length", wordedRecord(make([]byte, api.MaxData-2))},
		{"MaxData bytes", wordedFar(api.MaxData)},
		{"more than MaxData bytes", wordedFar(api.MaxData + 1)},
		{"the greatest length", wordedFar(65535)},
		{"bytes of another kind", []byte("bytes of another kind")},
	} {
		data := slices.Concat(good, s.next, recordOf(two))
		wantRecovered(t, s.what, api.Tape{Data: data, Synced: len(good) + 1}, []api.Commit{one}, api.Tape{Data: good, Synced: len(good)})
		wantRecovered(t, s.what+", less synced", api.Tape{Data: data, Synced: 3}, []api.Commit{one}, api.Tape{Data: good, Synced: 3})
	}
	for _, turn := range []int{0, 2, 256, api.MaxTurns} {
		data := recordOf(commit(turn, gone("a", "k")))
		wantRecovered(t, "another first turn", api.Tape{Data: data, Synced: len(data)}, nil, api.Tape{})
	}
	data := slices.Concat([]byte{0}, good)
	wantRecovered(t, "a byte ahead", api.Tape{Data: data, Synced: len(data)}, nil, api.Tape{})
}

// wordedFar: a length, so many bytes and four more, which no digest is made of.
func wordedFar(n int) []byte {
	return append([]byte{byte(n / 256), byte(n % 256)}, make([]byte, n+4)...)
}

// P6.8: turns go on beyond a byte; as many commits as a tape has room for.
func TestRecoverMany(t *testing.T) {
	var l []api.Commit
	var data []byte
	for {
		c := commit(len(l)+1, gone("a", "k"))
		next := recordOf(c)
		if len(data)+len(next) > api.MaxBytes {
			break
		}
		l, data = append(l, c), append(data, next...)
	}
	tp := api.Tape{Data: data, Synced: len(data)}
	wantRecovered(t, "many", tp, l, tp)
	if len(l) < 10000 {
		t.Errorf("%d commits", len(l))
	}
}

// held: a tape of commits, as the chapter words it: how long it is, and how much of it is synced.
type held struct {
	tape    api.Tape
	commits []api.Commit
	ends    []int
}

// whole: how many commits end at a place, or ahead of it.
func (h *held) whole(at int) int {
	n := 0
	for n < len(h.ends) && h.ends[n] <= at {
		n++
	}
	return n
}

func (h *held) cut(n int) { h.commits, h.ends = h.commits[:n], h.ends[:n] }

// P6.5 to P6.8: what was synced is recovered behind each crash, and nothing that was not appended.
func TestSyncedOutlastsCrashes(t *testing.T) {
	d := die(4)
	for range 60 {
		var h held
		for range 60 {
			var e api.Errno
			switch d.n(8) {
			case 0:
				h.tape, e = Sync(h.tape)
			case 1:
				e = h.crash(t, d.n(700))
			default:
				c := d.commit(len(h.commits) + 1)
				h.tape, e = Append(h.tape, c)
				h.commits, h.ends = append(h.commits, c), append(h.ends, len(h.tape.Data))
			}
			if e != api.OK {
				t.Fatal(e)
			}
			wantRecovered(t, "on the way", h.tape, h.commits, h.tape)
		}
	}
}

// crash: what is left is whole up to where the synced and the kept bytes end; then it is recovered, and goes on.
func (h *held) crash(t *testing.T, keep int) api.Errno {
	t.Helper()
	safe, stay := h.whole(h.tape.Synced), min(h.tape.Synced+keep, len(h.tape.Data))
	left, e := Crash(h.tape, keep)
	if e != api.OK || left.Synced != stay || !bytes.Equal(left.Data, h.tape.Data[:stay]) {
		t.Fatalf("Crash of %v at %d: %v, %v", h.tape, keep, left, e)
	}
	h.cut(h.whole(stay))
	if len(h.commits) < safe {
		t.Fatalf("%d commits are left of %d that were synced", len(h.commits), safe)
	}
	l, cut, e := Recover(left)
	if !sameCommits(l, h.commits) || cut.Synced != len(cut.Data) {
		t.Fatalf("Recover of %v: %v, %v, want %v", left, l, cut, h.commits)
	}
	h.tape = cut
	return e
}
