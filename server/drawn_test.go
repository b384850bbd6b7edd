package server

import (
	"fmt"
	"strings"
	"testing"

	"canopy/api"
)

// die: numbers that look drawn, the same each time.
type die uint64

func (d *die) n(most int) int {
	*d = *d*6364136223846793005 + 1442695040888963407
	return int(uint64(*d>>33) % uint64(most))
}

// land: of what kind the drawn scripts are.
type land struct {
	acts    int
	names   int
	keys    int
	crashes int // of a thousand acts
	syncs   int
	any     int   // of a thousand requests: whatever the session is at
	kinds   []int // of requests, while a transaction goes on; some stand here often
	widest  int   // how far a Scan goes, in keys
}

var lands = []land{
	{acts: 400, names: 2, keys: 6, crashes: 15, syncs: 120, any: 150, widest: 4,
		kinds: []int{api.Get, api.Get, api.Scan, api.Put, api.Put, api.Delete, api.Commits, api.Commits, api.Prove, api.Abort}},
	{acts: 600, names: 3, keys: 200, crashes: 5, syncs: 30, any: 50, widest: 10, // much is read at once
		kinds: []int{api.Get, api.Get, api.Get, api.Get, api.Scan, api.Scan, api.Put, api.Delete, api.Get, api.Get, api.Get, api.Scan, api.Put, api.Get, api.Get, api.Get, api.Get, api.Get, api.Get, api.Get, api.Commits}},
	{acts: 4000, names: 9, keys: 70, crashes: 1, syncs: 60, any: 10, widest: 70, // much is written, until nothing fits
		kinds: []int{api.Put, api.Put, api.Put, api.Put, api.Put, api.Put, api.Put, api.Put, api.Put, api.Put, api.Put, api.Put, api.Delete, api.Scan, api.Commits}},
	{acts: 3000, names: 1, keys: 70, crashes: 1, syncs: 60, any: 10, widest: 70,
		kinds: []int{api.Put, api.Put, api.Put, api.Put, api.Put, api.Put, api.Put, api.Put, api.Put, api.Delete, api.Scan, api.Commits}},
	{acts: 3000, names: 2, keys: 3, crashes: 2, syncs: 300, any: 10, widest: 2, // many commits
		kinds: []int{api.Put, api.Put, api.Commits, api.Commits, api.Get}},
}

var bad = []deed{
	{act: api.Act{Data: nil}, refused: api.ErrShort},
	{act: api.Act{Data: []byte{0}}, refused: api.ErrKind},
	{act: api.Act{Data: []byte{9, 1}}, refused: api.ErrKind},
	{act: api.Act{Data: []byte{api.Get, 1, 'a', 1}}, refused: api.ErrShort},
	{act: api.Act{Data: []byte{api.Commits, 0}}, refused: api.ErrForm},
	{act: api.Act{Data: []byte{api.Put, 1, 'a', 0, 0}}, refused: api.ErrSize},
}

// deed that suits what a model is at, more often than not.
func (d *die) deed(m *model, l land) deed {
	n := d.n(1000)
	switch {
	case m.down && n < 600, n < 2:
		return deed{act: api.Act{Kind: api.Start}}
	case n < 2+l.crashes:
		return deed{act: api.Act{Kind: api.Crash, Keep: d.n(1 + 40*len(m.queue))}}
	case n < 2+l.crashes+l.syncs:
		return deed{act: api.Act{Kind: api.Sync}}
	}
	x := d.n(api.MaxSessions)
	if d.n(50) == 0 {
		b := bad[d.n(len(bad))]
		b.act.Kind, b.act.Session = api.Ask, x
		return b
	}
	q := d.request(d.kind(m.visitors[x], l), l)
	return deed{act: api.Act{Kind: api.Ask, Session: x, Data: bytesOf(q)}, request: q}
}

func (d *die) kind(v visitor, l land) int {
	switch {
	case d.n(1000) < l.any:
		return api.Begin + d.n(api.Prove)
	case v.begun:
		return l.kinds[d.n(len(l.kinds))]
	}
	return api.Begin
}

func (d *die) request(kind int, l land) api.Request {
	q := api.Request{Kind: kind}
	if kind == api.Begin || kind == api.Commits || kind == api.Abort {
		return q
	}
	key := d.n(l.keys)
	q.Name, q.Key = []byte{byte('a' + d.n(l.names))}, keyOf(key)
	switch kind {
	case api.Scan:
		q.Last = keyOf(key + d.n(l.widest+1) - 1)
		if d.n(3) == 0 {
			q.Key, q.Last = []byte{0}, []byte{255}
		}
	case api.Put:
		q.Value = []byte(strings.Repeat("v", d.n(3)))
		if len(q.Value) > 0 {
			q.Value[0] = byte(d.n(256))
		}
	}
	return q
}

// keyOf a number: of one byte or of two, and some begin with others.
func keyOf(n int) []byte {
	n = max(n, 0)
	if n%3 == 0 {
		return []byte{byte('!' + n/3)}
	}
	return []byte{byte('!' + n/3), byte(n % 3)}
}

func bytesOf(q api.Request) []byte {
	b := []byte{byte(q.Kind)}
	add := func(parts ...[]byte) {
		for _, p := range parts {
			b = append(append(b, byte(len(p))), p...)
		}
	}
	switch q.Kind {
	case api.Get, api.Delete, api.Prove:
		add(q.Name, q.Key)
	case api.Scan:
		add(q.Name, q.Key, q.Last)
	case api.Put:
		add(q.Name, q.Key, q.Value)
	}
	return b
}

// script that looks drawn, the model behind it, and how many replies there were ahead of each deed.
func (d *die) script(l land) ([]deed, *model, []int) {
	m := newModel()
	var deeds []deed
	var ahead []int
	for range l.acts {
		x := d.deed(m, l)
		deeds, ahead = append(deeds, x), append(ahead, len(m.replies))
		m.do(x)
	}
	return deeds, m, append(ahead, len(m.replies))
}

func actsOf(deeds []deed) []api.Act {
	var out []api.Act
	for _, x := range deeds {
		out = append(out, x.act)
	}
	return out
}

// whole of a reply, to the last byte.
func whole(r api.Reply) string {
	return fmt.Sprint(show(r), r.Found, r.Value, r.Pairs, r.Root, r.Outer, r.Inner)
}

func sameOutcome(t *testing.T, got, want api.Outcome) {
	t.Helper()
	for i := range min(len(got.Replies), len(want.Replies)) {
		if a, b := whole(got.Replies[i]), whole(want.Replies[i]); a != b {
			t.Fatalf("reply %d is %s, want %s", i, a, b)
		}
	}
	if len(got.Replies) != len(want.Replies) {
		t.Fatalf("%d replies, want %d", len(got.Replies), len(want.Replies))
	}
	if showEnd(got) != showEnd(want) {
		t.Fatalf("the end is %s, want %s", showEnd(got), showEnd(want))
	}
}

// P11: drawn scripts bring what the model tells, and what may be told to each kind of request has been told.
func TestDrawn(t *testing.T) {
	met := map[string]int{}
	d := die(11)
	for i, l := range lands {
		for range map[bool]int{true: 60, false: 4}[i < 2] {
			deeds, m, ahead := d.script(l)
			o, e := Run(actsOf(deeds))
			if e != api.OK {
				t.Fatal(e)
			}
			sameOutcome(t, o, m.outcome())
			count(met, deeds, o.Replies, ahead)
			proofsHold(t, deeds, o.Replies, ahead)
			oneBehindTheOther(t, deeds, m, ahead)
		}
	}
	wanted := `begin ok, begin state, begin over, get ok, get state, get gone, get full, scan ok, scan state, scan gone, scan full,
		put ok, put state, put gone, put full, delete ok, delete state, delete gone, delete full, abort ok, abort state,
		commit ok, commit state, commit gone, commit full, commit clash, commit waits, prove ok, prove over,
		bad short, bad kind, bad form, bad size, bad over`
	for _, w := range strings.Split(wanted, ",") {
		if met[strings.TrimSpace(w)] < 3 {
			t.Errorf("%s: met %d times", w, met[strings.TrimSpace(w)])
		}
	}
}

func wordOf(kind int) string {
	for word, k := range kinds {
		if int(k) == kind {
			return word
		}
	}
	return "bad"
}

// count which requests were told what.
func count(met map[string]int, deeds []deed, replies []api.Reply, ahead []int) {
	for i, x := range deeds {
		if x.act.Kind != api.Ask {
			continue
		}
		told := "waits"
		if ahead[i+1] > ahead[i] {
			told = codes[replies[ahead[i]].Code]
		}
		met[wordOf(x.request.Kind)+" "+told]++
	}
}

func proofsHold(t *testing.T, deeds []deed, replies []api.Reply, ahead []int) {
	t.Helper()
	for i, x := range deeds {
		if x.request.Kind == api.Prove && replies[ahead[i]].Code == api.OK {
			verify(t, replies[ahead[i]], x.request)
		}
	}
}

// oneBehindTheOther: what the requests of each transaction that was told of a Turn had brought they bring again, if its requests are done alone, right behind the Turn ahead of its own (behind its own, if it writes nothing).
func oneBehindTheOther(t *testing.T, deeds []deed, m *model, ahead []int) {
	t.Helper()
	var done [api.MaxSessions][]int // places of the deeds of transactions that go on
	tell := func(x, turn int) {
		alone := model{worlds: m.worlds[:turn+1], commits: m.commits[:turn], synced: turn}
		for _, at := range done[x] {
			again := deeds[at]
			alone.replies = nil
			alone.do(again)
			was, is := m.replies[ahead[at]], alone.replies[0]
			was.Turn, is.Turn = 0, 0
			if whole(was) != whole(is) {
				t.Fatalf("deed %d of session %d: alone behind turn %d it brings %s, it had brought %s", at, x, turn, whole(is), whole(was))
			}
		}
	}
	for i, d := range deeds {
		x := d.act.Session
		told := m.replies[ahead[i]:ahead[i+1]]
		switch {
		case d.act.Kind == api.Sync:
			for _, r := range told {
				tell(r.Session, r.Turn-1)
			}
		case d.act.Kind == api.Crash:
			done = [api.MaxSessions][]int{}
		case d.act.Kind != api.Ask || len(told) == 0 || told[0].Code != api.OK:
		case d.request.Kind == api.Begin:
			done[x] = []int{i}
		case d.request.Kind == api.Commits:
			tell(x, told[0].Turn)
		case d.request.Kind != api.Prove:
			done[x] = append(done[x], i)
		}
	}
}

// P11.1: acts are done one behind the other: what comes later changes no reply that was given.
func TestBeginnings(t *testing.T) {
	d := die(7)
	for range 5 {
		deeds, _, _ := d.script(lands[0])
		l := actsOf(deeds)
		all, _ := Run(l)
		m := newModel()
		for i := range l {
			o, e := Run(l[:i])
			if e != api.OK || len(o.Replies) > len(all.Replies) {
				t.Fatalf("%d replies, %d", len(o.Replies), e)
			}
			sameOutcome(t, o, m.outcome())
			m.do(deeds[i])
		}
	}
}

// What a script brings hangs on it alone: nothing is kept from call to call.
func TestAgain(t *testing.T) {
	d := die(5)
	deeds, _, _ := d.script(lands[0])
	l := actsOf(deeds)
	first, _ := Run(l)
	other, _, _ := d.script(lands[2])
	Run(actsOf(other))
	second, _ := Run(l)
	sameOutcome(t, second, first)
}
