package server

import (
	"encoding/hex"
	"fmt"
	"strconv"
	"strings"
	"testing"

	"canopy/api"
	"canopy/forest"
)

// story: acts as words, and the replies that each of them brings.
//
// An act is `sync`, `start`, `crash <keep>`, or what a session asks: `0 begin`, `0 get a k`, `0 scan a k l`, `0 put a k 7`, `0 delete a k`, `0 commit`, `0 abort`, `0 prove a k`, or `0 raw <digits of the base 16>`.
// A reply is shown as its session, its code and, if that is ok, its turn; then `=` and the value of what was found, pairs, and `proof`.
type story struct {
	acts   []api.Act
	want   []string
	proofs map[int]api.Request // by the place of the reply: what was to be proved
}

var kinds = map[string]byte{
	"begin": api.Begin, "get": api.Get, "scan": api.Scan, "put": api.Put,
	"delete": api.Delete, "commit": api.Commits, "abort": api.Abort, "prove": api.Prove,
}

var codes = map[api.Errno]string{
	api.OK: "ok", api.ErrSize: "size", api.ErrRange: "range", api.ErrOrder: "order", api.ErrForm: "form", api.ErrKind: "kind",
	api.ErrState: "state", api.ErrNone: "none", api.ErrProof: "proof", api.ErrClash: "clash", api.ErrGone: "gone",
	api.ErrFull: "full", api.ErrRight: "right", api.ErrOver: "over", api.ErrShort: "short",
}

func (s *story) do(line string, replies ...string) {
	f := strings.Fields(line)
	s.acts = append(s.acts, actOf(f))
	if len(f) == 4 && f[1] == "prove" && len(replies) == 1 && strings.HasSuffix(replies[0], "proof") {
		if s.proofs == nil {
			s.proofs = map[int]api.Request{}
		}
		s.proofs[len(s.want)] = api.Request{Name: []byte(f[2]), Key: []byte(f[3])}
	}
	s.want = append(s.want, replies...)
}

// commit: a session writes 1 at the keys of a tenant, and commits.
func (s *story) commit(session, turn int, name string, keys ...string) {
	x := strconv.Itoa(session)
	s.do(x+" begin", fmt.Sprint(x, " ok ", turn))
	for _, k := range keys {
		s.do(x+" put "+name+" "+k+" 1", x+" ok 0")
	}
	s.do(x + " commit")
}

// synced: a session's commit, told of the turn behind.
func (s *story) synced(session, turn int, name string, keys ...string) {
	s.commit(session, turn, name, keys...)
	s.do("sync", fmt.Sprint(session, " ok ", turn+1))
}

func actOf(f []string) api.Act {
	switch f[0] {
	case "sync":
		return api.Act{Kind: api.Sync}
	case "start":
		return api.Act{Kind: api.Start}
	case "crash":
		return api.Act{Kind: api.Crash, Keep: number(f[1])}
	}
	return api.Act{Kind: api.Ask, Session: number(f[0]), Data: dataOf(f[1], f[2:])}
}

func number(text string) int {
	n, err := strconv.Atoi(text)
	if err != nil {
		panic(err)
	}
	return n
}

// dataOf a request, written out as chapter 9 says; a Put may leave its value out.
func dataOf(word string, parts []string) []byte {
	if word == "raw" {
		b, err := hex.DecodeString(strings.Join(parts, ""))
		if err != nil {
			panic(err)
		}
		return b
	}
	if kinds[word] == 0 {
		panic(word)
	}
	if word == "put" && len(parts) == 2 {
		parts = append(parts, "")
	}
	b := []byte{kinds[word]}
	for _, p := range parts {
		b = append(append(b, byte(len(p))), p...)
	}
	return b
}

// check that the script brings these replies, and comes to this end.
func (s *story) check(t *testing.T, end string) {
	t.Helper()
	o, e := Run(s.acts)
	if e != api.OK {
		t.Fatalf("refused: %d", e)
	}
	for i := range max(len(o.Replies), len(s.want)) {
		got, want := "nothing", "nothing"
		if i < len(o.Replies) {
			got = show(o.Replies[i])
		}
		if i < len(s.want) {
			want = s.want[i]
		}
		if got != want {
			t.Fatalf("reply %d is %q, want %q", i, got, want)
		}
		if q, ok := s.proofs[i]; ok {
			verify(t, o.Replies[i], q)
		}
	}
	if got := showEnd(o); got != end {
		t.Fatalf("the end is %q, want %q", got, end)
	}
}

// verify that the proofs of a reply hold, and tell what it tells.
func verify(t *testing.T, r api.Reply, q api.Request) {
	t.Helper()
	found, e := forest.Verify(r.Root, q.Name, q.Key, r.Outer, r.Inner)
	if e != api.OK || found.Found != r.Found || string(found.Value) != string(r.Value) {
		t.Fatalf("a proof of %s %s does not hold: %v %d, the reply is %v", q.Name, q.Key, found, e, r)
	}
}

func show(r api.Reply) string {
	out := fmt.Sprint(r.Session, " ", codes[r.Code])
	if r.Code == api.OK || r.Turn != 0 {
		out += fmt.Sprint(" ", r.Turn)
	}
	if r.Found {
		out += " ="
	}
	out += string(r.Value)
	for _, p := range r.Pairs {
		out += fmt.Sprintf(" %s=%s", p.Key, p.Value)
	}
	if len(r.Root) > 0 || shownProof(r.Outer) != noProof || shownProof(r.Inner) != noProof {
		out += " proof"
	}
	return out
}

var noProof = shownProof(api.Proof{})

func shownProof(p api.Proof) string {
	return fmt.Sprintf("%t %v %x %x", p.Empty, p.Steps, p.Pair.Key, p.Pair.Value)
}

func showEnd(o api.Outcome) string {
	out := map[bool]string{true: "up", false: "down"}[o.Up] + fmt.Sprintf(" %d %d", o.Turn, o.Pending)
	for _, t := range o.Forest {
		out += fmt.Sprintf(" %s:", t.Name)
		for i, p := range t.Pairs {
			if i > 0 {
				out += ","
			}
			out += fmt.Sprintf("%s=%s", p.Key, p.Value)
		}
	}
	return out
}

// keysOf so many: A, B, .. each of one byte, in order.
func keysOf(n int) []string {
	var out []string
	for i := range n {
		out = append(out, string(rune('A'+i)))
	}
	return out
}

// shownTenant of so many keys, each of which has 1, as an end shows it.
func shownTenant(name string, keys []string) string {
	return " " + name + ":" + strings.Join(keys, "=1,") + "=1"
}
