package history

import (
	"bytes"
	"encoding/hex"
	"maps"
	"math"
	"slices"
	"strings"
	"testing"

	"canopy/api"
	"canopy/forest"
)

// die: numbers that look drawn, the same each time.
type die uint64

func (d *die) n(most int) int {
	*d = *d*6364136223846793005 + 1442695040888963407
	return int(uint64(*d>>33) % uint64(most))
}

func (d *die) bytes(n int) []byte {
	b := make([]byte, n)
	for i := range b {
		b[i] = byte(d.n(256))
	}
	return b
}

// text: of few bytes of few kinds, so that texts meet, and begin with one another.
func (d *die) text() []byte {
	text := make([]byte, 1+d.n(2))
	for i := range text {
		text[i] = []byte{0, 'a', 255}[d.n(3)]
	}
	return text
}

// write that may be.
func (d *die) write() api.Write {
	w := api.Write{Name: d.text(), Key: d.text(), Gone: d.n(3) == 0}
	if !w.Gone {
		w.Value = []byte{'1', '2', '3'}[:d.n(3)]
	}
	return w
}

// history of commits that may be; there may be no room for all of its tenants.
func (d *die) history() []api.Commit {
	var l []api.Commit
	for i := range d.n(20) {
		c := commit(i + 1)
		for range 1 + d.n(4) {
			c.Writes = append(c.Writes, d.write())
		}
		l = append(l, c)
	}
	return l
}

func put(name, key, value string) api.Write {
	return api.Write{Name: []byte(name), Key: []byte(key), Value: []byte(value)}
}

func gone(name, key string) api.Write {
	return api.Write{Name: []byte(name), Key: []byte(key), Gone: true}
}

func gonePut(name, key, value string) api.Write {
	w := put(name, key, value)
	w.Gone = true
	return w
}

func commit(turn int, l ...api.Write) api.Commit { return api.Commit{Turn: turn, Writes: l} }

// turns: commits of these writes, from the first turn on.
func turns(l ...[]api.Write) []api.Commit {
	var out []api.Commit
	for i, ws := range l {
		out = append(out, commit(i+1, ws...))
	}
	return out
}

func writes(l ...api.Write) []api.Write { return l }

// chunked: commits of these writes, as many in each of them as there may be.
func chunked(ws []api.Write) []api.Commit {
	return turns(slices.Collect(slices.Chunk(ws, api.MaxWrites))...)
}

// puts: for each of so many tenants so many pairs.
func puts(tenants, pairs int, value string) []api.Write {
	var out []api.Write
	for i := range tenants {
		for k := range pairs {
			out = append(out, put(string([]byte{byte(8*i + 1)}), string([]byte{byte(k)}), value))
		}
	}
	return out
}

// repeated: n commits that put one pair, each of them another value.
func repeated(n int) []api.Commit {
	var l []api.Commit
	for i := range n {
		l = append(l, commit(i+1, put("a", "k", string([]byte{byte(i), byte(i >> 8)}))))
	}
	return l
}

func tenant(name string, texts ...string) api.Tenant {
	t := api.Tenant{Name: []byte(name)}
	for i := 0; i < len(texts); i += 2 {
		t.Pairs = append(t.Pairs, api.Pair{Key: []byte(texts[i]), Value: []byte(texts[i+1])})
	}
	return t
}

func samePair(a, b api.Pair) bool { return bytes.Equal(a.Key, b.Key) && bytes.Equal(a.Value, b.Value) }

func sameTenants(a, b []api.Tenant) bool {
	return slices.EqualFunc(a, b, func(a, b api.Tenant) bool {
		return bytes.Equal(a.Name, b.Name) && slices.EqualFunc(a.Pairs, b.Pairs, samePair)
	})
}

// grove: a forest as maps.
type grove map[string]map[string]string

func (g grove) write(w api.Write) {
	name, key := string(w.Name), string(w.Key)
	if !w.Gone {
		if g[name] == nil {
			g[name] = map[string]string{}
		}
		g[name][key] = string(w.Value)
		return
	}
	delete(g[name], key)
	if len(g[name]) == 0 {
		delete(g, name)
	}
}

func (g grove) copy() grove {
	out := grove{}
	for name, held := range g {
		out[name] = maps.Clone(held)
	}
	return out
}

func (g grove) tenants() []api.Tenant {
	var l []api.Tenant
	for _, name := range slices.Sorted(maps.Keys(g)) {
		t := api.Tenant{Name: []byte(name)}
		for _, key := range slices.Sorted(maps.Keys(g[name])) {
			t.Pairs = append(t.Pairs, api.Pair{Key: []byte(key), Value: []byte(g[name][key])})
		}
		l = append(l, t)
	}
	return l
}

// room: is there room for all of it?
func (g grove) room() bool {
	for _, held := range g {
		if len(held) > api.MaxPairs {
			return false
		}
	}
	return len(g) <= api.MaxTenants
}

// wordedForests behind each turn, as the chapter words it; api.ErrFull, if there is no room. (The writes may be.)
func wordedForests(l []api.Commit) ([]grove, api.Errno) {
	now := grove{}
	out := []grove{now.copy()}
	for _, c := range l {
		for _, w := range c.Writes {
			if now.write(w); !now.room() {
				return nil, api.ErrFull
			}
		}
		out = append(out, now.copy())
	}
	return out, api.OK
}

// story: a history that has a bit of everything; the forests behind its turns, and their roots, come from another program.
func story() []api.Commit {
	return turns(
		writes(put("b", "k", "1")),
		writes(put("a", "k", "\x07"), put("b", "l", "2")),
		writes(put("b", "k", ""), gone("b", "l")),
		writes(put("b", "k", "8"), put("b", "k", "9"), gone("c", "x")),
		writes(gone("a", "k"), gone("b", "k")),
		writes(put("b", "k", "9"), put("aa", "k", ""), put("a", "kk", "5"), put("a", "k", "\x07")),
	)
}

func storyForests() [][]api.Tenant {
	return [][]api.Tenant{
		nil,
		{tenant("b", "k", "1")},
		{tenant("a", "k", "\x07"), tenant("b", "k", "1", "l", "2")},
		{tenant("a", "k", "\x07"), tenant("b", "k", "")},
		{tenant("a", "k", "\x07"), tenant("b", "k", "9")},
		nil,
		{tenant("a", "k", "\x07", "kk", "5"), tenant("aa", "k", ""), tenant("b", "k", "9")},
	}
}

func storyRoots() []string {
	return []string{
		"5d53469f20fef4f8eab52b88044ede69c77a6a68a60728609fc4a65ff531e7d0",
		"81980cbad2e704391a43d7d15c2ed781058b88fdb7a78e96e849b720d99e03b3",
		"91f6f95a675dbf940179c85814bf2ac93593ee12829d1700a74a96c6488a25e5",
		"7eb538a1ebfef4fa1ef8c92b9ca6233a691542d4f28775de95d857b10b560f5b",
		"1f627280e10fbb5b50235877ca99e41cd8ab848aa4d8cca53d89dc518a08b29b",
		"5d53469f20fef4f8eab52b88044ede69c77a6a68a60728609fc4a65ff531e7d0",
		"cffc7d1b30abd46cbce47bb56e4ad78c46f1248a604be2b2ce2145ef45c660dd",
	}
}

// mayBe: histories that P7.1 takes, edges among them.
func mayBe() map[string][]api.Commit {
	full := puts(api.MaxTenants, api.MaxPairs, "v")
	longest := put(strings.Repeat("n", api.MaxName), strings.Repeat("k", api.MaxKey), strings.Repeat("v", api.MaxValue))
	return map[string][]api.Commit{
		"nothing":                     nil,
		"no commits":                  {},
		"one":                         turns(writes(put("a", "k", "v"))),
		"a story":                     story(),
		"nothing to take away":        turns(writes(gone("a", "k"))),
		"the longest":                 turns(slices.Repeat(writes(longest), api.MaxWrites), writes(longest)),
		"as many as there may be":     repeated(api.MaxCommits),
		"a forest that is full":       chunked(full),
		"the same once more":          chunked(slices.Concat(full, full)),
		"room is made for a pair":     chunked(slices.Concat(puts(1, api.MaxPairs, ""), writes(gone("\x01", "\x00"), put("\x01", "k", "")))),
		"room is made for a tenant":   chunked(slices.Concat(puts(api.MaxTenants, 1, ""), writes(gone("\x01", "\x00"), put("z", "k", "")))),
		"a full one, nothing is gone": append(chunked(full), commit(len(full)/api.MaxWrites+1, gone("z", "k"))),
		"not in order within a turn":  turns(writes(put("b", "l", "1"), put("b", "k", "1"), put("a", "k", "1"), gone("b", "l"), put("b", "l", "2"))),
	}
}

// P7.1: what is a history.
func TestCheck(t *testing.T) {
	for what, l := range mayBe() {
		if e := Check(l); e != api.OK {
			t.Errorf("%s: %v", what, e)
		}
	}
}

type wrongHistory struct {
	what string
	l    []api.Commit
	want api.Errno
}

// wrongHistories: what is none, and which error is named first.
func wrongHistories() []wrongHistory {
	good, withValue, wide := put("a", "k", "v"), gonePut("a", "k", "v"), put("a", "k", strings.Repeat("v", api.MaxValue+1))
	nine, pair61 := puts(api.MaxTenants+1, 1, ""), puts(1, api.MaxPairs+1, "")
	turned := func(turn int, l ...api.Write) []api.Commit { return []api.Commit{commit(turn, l...)} }
	behind := func(l []api.Commit, c api.Commit) []api.Commit { return append(slices.Clone(l), c) }
	most := repeated(api.MaxCommits)
	eight := chunked(puts(api.MaxTenants, 1, ""))
	return []wrongHistory{
		{"one commit too many", repeated(api.MaxCommits + 1), api.ErrSize},
		{"many commits too many", repeated(3 * api.MaxCommits), api.ErrSize},
		{"too many, the first of them wrong", slices.Concat(turned(2, good), most), api.ErrSize},
		{"too many, the first of them Gone with a value", slices.Concat(turned(1, withValue), most), api.ErrSize},
		{"too many, none of them one", make([]api.Commit, api.MaxCommits+1), api.ErrSize},
		{"turn 0", turned(0, good), api.ErrRange},
		{"nothing", make([]api.Commit, 1), api.ErrRange},
		{"a turn below 0", turned(-1, good), api.ErrRange},
		{"the least turn", turned(math.MinInt, good), api.ErrRange},
		{"a turn beyond all", turned(api.MaxTurns+1, good), api.ErrRange},
		{"the greatest turn", turned(math.MaxInt, good), api.ErrRange},
		{"turn 0, no writes", turned(0), api.ErrRange},
		{"turn 0 behind others", behind(story(), commit(0, good)), api.ErrRange},
		{"no writes", turned(1), api.ErrSize},
		{"no writes behind others", behind(story(), commit(7)), api.ErrSize},
		{"a write too many", turned(1, slices.Repeat(writes(good), api.MaxWrites+1)...), api.ErrSize},
		{"no name", turned(1, put("", "k", "v")), api.ErrSize},
		{"a long name", turned(1, put("123456789", "k", "v")), api.ErrSize},
		{"no key", turned(1, put("a", "", "v")), api.ErrSize},
		{"a long key", turned(1, put("a", strings.Repeat("k", api.MaxKey+1), "v")), api.ErrSize},
		{"a long value", turned(1, wide), api.ErrSize},
		{"Gone with a value", turned(1, withValue), api.ErrForm},
		{"Gone with a value, behind others", behind(story(), commit(7, good, withValue)), api.ErrForm},
		{"a wrong write ahead of one too many", turned(1, append(writes(withValue), slices.Repeat(writes(good), api.MaxWrites)...)...), api.ErrForm},
		{"turn 2 first", turned(2, good), api.ErrOrder},
		{"the last turn first", turned(api.MaxTurns, good), api.ErrOrder},
		{"a turn twice", behind(story(), commit(6, good)), api.ErrOrder},
		{"a turn is left out", behind(story(), commit(8, good)), api.ErrOrder},
		{"the first turn once more", behind(story(), commit(1, good)), api.ErrOrder},
		{"falling", []api.Commit{commit(2, good), commit(1, good)}, api.ErrOrder},
		{"from turn 2 on", story()[1:], api.ErrOrder},
		{"turn 2 first, no writes", turned(2), api.ErrSize},
		{"turn 2 first, a long value", turned(2, wide), api.ErrSize},
		{"turn 2 first, Gone with a value", turned(2, withValue), api.ErrForm},
		{"turn 2 first, no room", turned(2, nine...), api.ErrOrder},
		{"a turn twice, no room", behind(eight, commit(1, put("z", "k", ""))), api.ErrOrder},
		{"nine tenants in one commit", turned(1, nine...), api.ErrFull},
		{"a ninth tenant", behind(eight, commit(2, put("z", "k", ""))), api.ErrFull},
		{"a ninth tenant, for which room is made behind it", behind(eight, commit(2, put("z", "k", ""), gone("\x01", "\x00"))), api.ErrFull},
		{"a pair too many", chunked(pair61), api.ErrFull},
		{"no room, but a Gone one with a value", behind(eight, commit(2, put("z", "k", ""), withValue)), api.ErrForm},
		{"no room, then no writes", behind(chunked(pair61), commit(8)), api.ErrFull},
		{"no room, then a wrong turn", behind(chunked(pair61), commit(1, good)), api.ErrFull},
		{"a wrong turn, then no room", behind(turned(2, good), commit(2, nine...)), api.ErrOrder},
		{"a wrong turn, then no writes", behind(turned(2, good), commit(2)), api.ErrOrder},
		{"a wrong turn, then turn 0", behind(turned(2, good), commit(0, good)), api.ErrOrder},
		{"no writes, then a wrong turn", behind(turned(1), commit(1, good)), api.ErrSize},
		{"turn 0, then Gone with a value", behind(turned(0, good), commit(2, withValue)), api.ErrRange},
		{"wrong at the end", behind(most[:api.MaxCommits-1], commit(api.MaxCommits, withValue)), api.ErrForm},
		{"a wrong turn at the end", behind(most[:api.MaxCommits-1], commit(api.MaxCommits+1, good)), api.ErrOrder},
	}
}

// P7.1: what is no history is refused; the other calls refuse it with the same error, whatever the turns are.
func TestWrongHistories(t *testing.T) {
	for _, c := range wrongHistories() {
		if e := Check(c.l); e != c.want {
			t.Errorf("Check of %s: %v, want %v", c.what, e, c.want)
		}
		for _, turn := range []int{0, 1, len(c.l), len(c.l) + 1, -1, math.MinInt, math.MaxInt} {
			if f, e := Fold(c.l, turn); len(f) != 0 || e != c.want {
				t.Errorf("Fold of %s at %d: %v, %v, want %v", c.what, turn, f, e, c.want)
			}
			if b, e := Root(c.l, turn); len(b) != 0 || e != c.want {
				t.Errorf("Root of %s at %d: %v, %v, want %v", c.what, turn, b, e, c.want)
			}
			for _, to := range []int{0, len(c.l), -1} {
				if ws, e := Changes(c.l, turn, to); len(ws) != 0 || e != c.want {
					t.Errorf("Changes of %s from %d to %d: %v, %v, want %v", c.what, turn, to, ws, e, c.want)
				}
			}
		}
	}
}

// P7.2
func TestFold(t *testing.T) {
	for turn, want := range storyForests() {
		if got, e := Fold(story(), turn); e != api.OK || !sameTenants(got, want) {
			t.Errorf("behind turn %d: %v, %v, want %v", turn, got, e, want)
		}
		// what comes behind a turn does not touch it
		if got, e := Fold(story()[:turn], turn); e != api.OK || !sameTenants(got, want) {
			t.Errorf("behind turn %d, the last one: %v, %v, want %v", turn, got, e, want)
		}
	}
	for what, l := range mayBe() {
		forests, _ := wordedForests(l)
		for _, turn := range []int{0, len(l) / 2, len(l)} {
			if got, e := Fold(l, turn); e != api.OK || !sameTenants(got, forests[turn].tenants()) {
				t.Errorf("%s, behind turn %d: %v, %v, want %v", what, turn, got, e, forests[turn].tenants())
			}
		}
	}
}

// wrongTurns of so many commits.
func wrongTurns(commits int) []int {
	return []int{-1, commits + 1, -2, commits + 2, -commits - 1, api.MaxTurns, math.MinInt, math.MinInt + 1, math.MaxInt}
}

// P7.2, P7.3: turns that are not from 0 to the number of commits.
func TestWrongTurns(t *testing.T) {
	for what, l := range mayBe() {
		for _, turn := range wrongTurns(len(l)) {
			if f, e := Fold(l, turn); len(f) != 0 || e != api.ErrRange {
				t.Errorf("Fold of %s at %d: %v, %v", what, turn, f, e)
			}
			if b, e := Root(l, turn); len(b) != 0 || e != api.ErrRange {
				t.Errorf("Root of %s at %d: %v, %v", what, turn, b, e)
			}
		}
	}
}

// P7.3
func TestRoot(t *testing.T) {
	for turn, want := range storyRoots() {
		if got, e := Root(story(), turn); e != api.OK || hex.EncodeToString(got) != want {
			t.Errorf("behind turn %d: %x, %v, want %s", turn, got, e, want)
		}
	}
}

// P7.1 to P7.3: as the chapter words it, at each turn of drawn histories.
func TestDrawnHistories(t *testing.T) {
	d := die(7)
	seen := map[api.Errno]int{}
	for range 500 {
		l := d.history()
		forests, want := wordedForests(l)
		seen[want]++
		if e := Check(l); e != want {
			t.Fatalf("Check of %v: %v, want %v", l, e, want)
		}
		for turn, g := range forests {
			f, e := Fold(l, turn)
			if e != api.OK || !sameTenants(f, g.tenants()) {
				t.Fatalf("Fold of %v at %d: %v, %v, want %v", l, turn, f, e, g.tenants())
			}
			root, e := Root(l, turn)
			if want, _ := forest.Root(g.tenants()); e != api.OK || !bytes.Equal(root, want) {
				t.Fatalf("Root of %v at %d: %x, %v, want %x", l, turn, root, e, want)
			}
		}
	}
	if seen[api.OK] < 50 || seen[api.ErrFull] < 50 {
		t.Errorf("outcomes: %v", seen)
	}
}

// P7.4: the newest turn and five ahead of it, but none below 0.
func TestKept(t *testing.T) {
	for newest := -20; newest < 20; newest++ {
		kept := map[int]int{}
		for turn := max(0, newest-5); turn <= newest; turn++ {
			kept[turn]++
		}
		for turn := -30; turn < 30; turn++ {
			if got := Kept(newest, turn); got != (kept[turn] == 1) {
				t.Errorf("Kept(%d, %d): %v", newest, turn, got)
			}
		}
	}
	least, most := math.MinInt, math.MaxInt
	for _, c := range []struct {
		newest, turn int
		want         bool
	}{
		{api.MaxCommits, api.MaxCommits - 5, true}, {api.MaxCommits, api.MaxCommits - 6, false},
		{most, most, true}, {most, most - 5, true}, {most, most - 6, false}, {most, 0, false}, {most, -1, false}, {most, least, false},
		{most - 1, most, false}, {0, most, false}, {0, least, false}, {-1, most, false}, {-1, least, false},
		{least, least, false}, {least, most, false}, {least, 0, false}, {least + 3, most, false}, {least + 3, least, false},
	} {
		if got := Kept(c.newest, c.turn); got != c.want {
			t.Errorf("Kept(%d, %d): %v", c.newest, c.turn, got)
		}
	}
}
