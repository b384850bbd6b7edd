package history

import (
	"bytes"
	"maps"
	"slices"
	"testing"

	"canopy/api"
	"canopy/forest"
)

func sameWrite(a, b api.Write) bool {
	return bytes.Equal(a.Name, b.Name) && bytes.Equal(a.Key, b.Key) && a.Gone == b.Gone && bytes.Equal(a.Value, b.Value)
}

func sameWrites(a, b []api.Write) bool { return slices.EqualFunc(a, b, sameWrite) }

// P7.5: what was changed, both ways.
func TestChanges(t *testing.T) {
	for _, c := range []struct {
		from, to int
		want     []api.Write
	}{
		{0, 0, nil},
		{6, 6, nil},
		{0, 1, writes(put("b", "k", "1"))},
		{1, 0, writes(gone("b", "k"))},
		{1, 2, writes(put("a", "k", "\x07"), put("b", "l", "2"))},
		{2, 1, writes(gone("a", "k"), gone("b", "l"))},
		{2, 3, writes(put("b", "k", ""), gone("b", "l"))},
		{3, 2, writes(put("b", "k", "1"), put("b", "l", "2"))},
		{3, 4, writes(put("b", "k", "9"))}, // what is gone was not there: no change
		{4, 3, writes(put("b", "k", ""))},
		{3, 0, writes(gone("a", "k"), gone("b", "k"))}, // no value, and none there
		{0, 3, writes(put("a", "k", "\x07"), put("b", "k", ""))},
		{4, 5, writes(gone("a", "k"), gone("b", "k"))},
		{0, 5, nil}, // what came and went
		{5, 0, nil},
		{4, 6, writes(put("a", "kk", "5"), put("aa", "k", ""))}, // what went and came back
		{6, 4, writes(gone("a", "kk"), gone("aa", "k"))},
		{5, 6, writes(put("a", "k", "\x07"), put("a", "kk", "5"), put("aa", "k", ""), put("b", "k", "9"))},
		{1, 6, writes(put("a", "k", "\x07"), put("a", "kk", "5"), put("aa", "k", ""), put("b", "k", "9"))},
		{6, 2, writes(gone("a", "kk"), gone("aa", "k"), put("b", "k", "1"), put("b", "l", "2"))},
	} {
		if got, e := Changes(story(), c.from, c.to); e != api.OK || !sameWrites(got, c.want) {
			t.Errorf("from %d to %d: %v, %v, want %v", c.from, c.to, got, e, c.want)
		}
	}
}

// P7.5: names and keys stand by their bytes, names first, however they were written, and whichever forest has them.
func TestChangesStandByNamesThenKeys(t *testing.T) {
	l := turns(
		writes(put("\xff", "k", "1"), put("a", "z", "1"), put("a", "b\x00", "1"), put("ab", "a", "1")),
		writes(put("a", "b", "2"), gone("a", "z"), put("\x00", "k", "2"), put("\x7f", "\x80", "2"), put("\x7f", "\x7f", "2"), put("a\x00", "z", "2"), gone("\xff", "k")),
	)
	want := writes(put("\x00", "k", "2"), put("a", "b", "2"), gone("a", "z"), put("a\x00", "z", "2"), put("\x7f", "\x7f", "2"), put("\x7f", "\x80", "2"), gone("\xff", "k"))
	if got, e := Changes(l, 1, 2); e != api.OK || !sameWrites(got, want) {
		t.Errorf("%v, %v, want %v", got, e, want)
	}
}

// P7.5: there may be more changes than a commit has writes.
func TestManyChanges(t *testing.T) {
	all, other := puts(api.MaxTenants, api.MaxPairs, "1"), puts(api.MaxTenants, api.MaxPairs, "2")
	var none []api.Write
	for _, w := range all {
		none = append(none, gone(string(w.Name), string(w.Key)))
	}
	l := chunked(slices.Concat(all, other, none))
	third := len(l) / 3
	for _, c := range []struct {
		from, to int
		want     []api.Write
	}{
		{0, third, all}, {third, 2 * third, other}, {2 * third, third, all}, {third, 3 * third, none}, {0, 3 * third, nil}, {3 * third, 2 * third, other},
	} {
		if got, e := Changes(l, c.from, c.to); e != api.OK || !sameWrites(got, c.want) {
			t.Errorf("from %d to %d: %d changes, %v, want %d", c.from, c.to, len(got), e, len(c.want))
		}
	}
}

// P7.5: turns that are not from 0 to the number of commits.
func TestChangesOfWrongTurns(t *testing.T) {
	for what, l := range mayBe() {
		for _, turn := range wrongTurns(len(l)) {
			for _, other := range []int{0, len(l), turn, -turn} {
				if ws, e := Changes(l, turn, other); len(ws) != 0 || e != api.ErrRange {
					t.Errorf("%s, from %d to %d: %v, %v", what, turn, other, ws, e)
				}
				if ws, e := Changes(l, other, turn); len(ws) != 0 || e != api.ErrRange {
					t.Errorf("%s, from %d to %d: %v, %v", what, other, turn, ws, e)
				}
			}
		}
	}
}

// wordedChanges from one forest to another one, as the chapter words it.
func wordedChanges(from, to grove) []api.Write {
	both := from.copy()
	for name, held := range to {
		for key, value := range held {
			both.write(put(name, key, value))
		}
	}
	var out []api.Write
	for _, name := range slices.Sorted(maps.Keys(both)) {
		for _, key := range slices.Sorted(maps.Keys(both[name])) {
			was, had := from[name][key]
			is, has := to[name][key]
			if has && (!had || was != is) {
				out = append(out, put(name, key, is))
			}
			if had && !has {
				out = append(out, gone(name, key))
			}
		}
	}
	return out
}

// P7.5: as the chapter words it, between all turns of drawn histories; what comes of it: with the changes one forest is the other one.
func TestChangesOfDrawnHistories(t *testing.T) {
	d := die(75)
	changed := 0
	for range 120 {
		l := d.history()
		forests, e := wordedForests(l)
		if e != api.OK {
			continue
		}
		for from := range forests {
			for to := range forests {
				got, e := Changes(l, from, to)
				if want := wordedChanges(forests[from], forests[to]); e != api.OK || !sameWrites(got, want) {
					t.Fatalf("Changes of %v from %d to %d: %v, %v, want %v", l, from, to, got, e, want)
				}
				changed += len(got)
				wantChanged(t, l, from, to, got)
			}
		}
	}
	if changed < 1000 {
		t.Errorf("%d changes", changed)
	}
}

// wantChanged: the forest behind the one turn, with the changes, is that behind the other one.
func wantChanged(t *testing.T, l []api.Commit, from, to int, ws []api.Write) {
	t.Helper()
	// what is taken away first makes room
	ordered := slices.Clone(ws)
	slices.SortStableFunc(ordered, func(a, b api.Write) int { return goneFirst(a) - goneFirst(b) })
	f, _ := Fold(l, from)
	for _, w := range ordered {
		var e api.Errno
		if f, e = forest.Apply(f, writes(w)); e != api.OK {
			t.Fatalf("Apply of %v: %v", w, e)
		}
	}
	if want, _ := Fold(l, to); !sameTenants(f, want) {
		t.Fatalf("from %d to %d: %v, want %v", from, to, f, want)
	}
}

func goneFirst(w api.Write) int {
	if w.Gone {
		return 0
	}
	return 1
}
