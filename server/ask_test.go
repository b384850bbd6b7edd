package server

import (
	"fmt"
	"strings"
	"testing"

	"canopy/api"
	"canopy/forest"
)

// P11.2: what is no request is refused as chapter 9 says, ahead of what the session is at.
func TestNoRequests(t *testing.T) {
	raws := map[string]string{
		"": "short", "00": "kind", "09": "kind", "ff": "kind",
		"0100": "form", "0600": "form", "0701": "form",
		"02": "short", "0201": "short", "020161": "short", "02016101": "short", "03016101610161": "state", "030161016101": "short",
		"0201610161ff": "form", "0401610161": "short", "040161016101": "short",
		"02000161": "size", "02016100": "size", "0301610161" + "00": "size",
		"0209" + strings.Repeat("61", 9) + "0161": "size", "020161" + "11" + strings.Repeat("61", 17): "size",
		"0401610161" + "21" + strings.Repeat("61", 33): "size",
		"080061": "short", "08000161": "size",
	}
	for raw, code := range raws {
		var s story
		s.do("1 raw "+raw, "1 "+code)
		s.commit(0, 0, "a", "k")
		if code != "state" {
			s.do("0 raw "+raw, "0 "+code)
			s.do("1 begin", "1 ok 0")
			s.do("1 raw "+raw, "1 "+code)
			s.do("1 commit", "1 ok 0")
		}
		s.do("sync", "0 ok 1")
		s.check(t, "up 1 0 a:k=1")
	}
}

var others = []string{"get a k", "scan a k l", "put a k 1", "delete a k", "commit", "abort"}

// P11.2: what needs a transaction is refused without one, and a second Begin is, too: the first transaction goes on.
func TestStates(t *testing.T) {
	var s story
	for _, ask := range others {
		s.do("6 "+ask, "6 state")
	}
	s.do("6 begin", "6 ok 0")
	s.do("6 put a k 1", "6 ok 0")
	s.synced(0, 0, "b", "k")
	s.do("6 begin", "6 state")
	s.do("6 get a k", "6 ok 0 =1")
	s.do("6 commit")
	for _, ask := range append(others, "begin") {
		s.do("6 "+ask, "6 state")
	}
	s.do("sync", "6 ok 2")
	for _, ask := range others {
		s.do("6 "+ask, "6 state")
	}
	s.do("6 begin", "6 ok 2")
	s.do("6 get a k", "6 ok 2 =1")
	s.check(t, "up 2 0 a:k=1 b:k=1")
}

// P11.2: a transaction sees what was synced as it began: neither what waits nor what is synced later.
func TestBeginSeesSynced(t *testing.T) {
	var s story
	s.synced(0, 0, "a", "k")
	s.commit(0, 1, "a", "l")
	s.do("1 begin", "1 ok 1")
	s.do("1 get a l", "1 ok 1")
	s.do("sync", "0 ok 2")
	s.do("2 begin", "2 ok 2")
	s.do("1 get a l", "1 ok 1")
	s.do("1 scan a a z", "1 ok 1 k=1")
	s.do("2 get a l", "2 ok 2 =1")
	s.do("2 scan a a z", "2 ok 2 k=1 l=1")
	s.check(t, "up 2 0 a:k=1,l=1")
}

// P11.2: what a transaction wrote is over with it.
func TestAbort(t *testing.T) {
	var s story
	s.do("0 begin", "0 ok 0")
	s.do("0 get a l", "0 ok 0")
	s.do("0 put a k 1", "0 ok 0")
	s.do("0 abort", "0 ok 0")
	s.do("0 abort", "0 state")
	s.do("0 commit", "0 state")
	s.synced(1, 0, "a", "l")
	s.do("0 begin", "0 ok 1")
	s.do("0 get a k", "0 ok 1")
	s.do("0 commit", "0 ok 1")
	s.do("0 begin", "0 ok 1")
	s.do("0 abort", "0 ok 0")
	s.check(t, "up 1 0 a:l=1")
}

// P11.2: a proof is of what is synced, whatever the session is at, and reads and writes nothing.
func TestProve(t *testing.T) {
	var s story
	s.do("0 prove a k", "0 ok 0 proof")
	s.do("0 begin", "0 ok 0")
	s.do("0 prove a k", "0 ok 0 proof")
	s.do("0 put a k 7", "0 ok 0")
	s.do("0 prove a k", "0 ok 0 proof")
	s.do("1 begin", "1 ok 0")
	s.do("1 prove a k", "1 ok 0 proof")
	s.do("0 commit")
	s.do("0 prove a k", "0 ok 0 proof")
	s.do("sync", "0 ok 1")
	s.do("0 prove a k", "0 ok 1 =7 proof")
	s.do("0 prove a l", "0 ok 1 proof")
	s.do("0 prove b k", "0 ok 1 proof")
	s.do("1 prove a k", "1 ok 1 =7 proof")
	s.do("1 put a m 8", "1 ok 0")
	s.do("1 put c m", "1 ok 0")
	s.do("1 commit")
	s.do("sync", "1 ok 2")
	s.do("7 prove a k", "7 ok 2 =7 proof")
	s.do("7 prove a m", "7 ok 2 =8 proof")
	s.do("7 prove c m", "7 ok 2 = proof")
	s.do("7 prove b k", "7 ok 2 proof")
	s.do("7 prove a l", "7 ok 2 proof")
	s.check(t, "up 2 0 a:k=7,m=8 c:m=")
}

// P11.2: the Root is that of the forest behind the Turn, of which none of what waits is told.
func TestProveRoot(t *testing.T) {
	var s story
	s.synced(0, 0, "a", "k", "l")
	s.synced(0, 1, "b", "k")
	s.commit(0, 2, "c", "k")
	s.do("1 prove a k", "1 ok 2 =1 proof")
	s.check(t, "up 2 1 a:k=1,l=1 b:k=1")
	o, _ := Run(s.acts)
	last := o.Replies[len(o.Replies)-1]
	root, _ := forest.Root(o.Forest)
	outer, inner, _ := forest.Prove(o.Forest, []byte("a"), []byte("k"))
	if string(last.Root) != string(root) || shownProof(last.Outer) != shownProof(outer) || shownProof(last.Inner) != shownProof(inner) {
		t.Errorf("%x, want %x", last.Root, root)
	}
}

// P11.2: a start that is MaxKept behind is not kept: the transaction is over then, and can only be aborted.
func TestGone(t *testing.T) {
	for _, ask := range others {
		for _, writes := range []bool{false, true} {
			var s story
			s.do("7 begin", "7 ok 0")
			if writes {
				s.do("7 put a k 1", "7 ok 0")
			}
			for turn := range api.MaxKept {
				s.do("7 get a l", "7 ok 0")
				s.synced(0, turn, "b", "k")
			}
			if ask == "abort" {
				s.do("7 abort", "7 ok 0")
			} else {
				s.do("7 "+ask, "7 gone")
			}
			s.do("7 "+ask, "7 state")
			s.do("7 abort", "7 state")
			s.do("7 begin", "7 ok 6")
			s.do("7 get a k", "7 ok 6")
			s.check(t, "up 6 0 b:k=1")
		}
	}
}

// P11.2: the last kept start serves still, with all that was there then; commits that wait do not count.
func TestLastKept(t *testing.T) {
	var s story
	s.synced(0, 0, "a", "k")
	s.do("7 begin", "7 ok 1")
	for turn := range api.MaxKept - 1 {
		s.synced(0, turn+1, "a", "l", "k")
	}
	s.commit(0, api.MaxKept, "a", "m")
	s.commit(1, api.MaxKept, "a", "n")
	s.do("7 scan a a z", "7 ok 1 k=1")
	s.do("7 get b k", "7 ok 1")
	s.do("7 put b k 1", "7 ok 0")
	s.do("7 begin", "7 state")
	s.do("sync", "0 ok 7", "1 ok 8")
	s.do("7 begin", "7 state")
	s.do("7 prove a m", "7 ok 8 =1 proof")
	s.do("7 put b k 1", "7 gone")
	s.do("7 begin", "7 ok 8")
	s.check(t, "up 8 0 a:k=1,l=1,m=1,n=1")
}

// P11.3: a transaction sees its own writes, the last one at each place.
func TestOwnWrites(t *testing.T) {
	var s story
	s.synced(0, 0, "a", "k", "l", "n")
	s.do("1 begin", "1 ok 1")
	s.do("1 put a k 2", "1 ok 0")
	s.do("1 delete a l", "1 ok 0")
	s.do("1 put a m", "1 ok 0")
	s.do("1 put b k 5", "1 ok 0")
	s.do("1 delete a x", "1 ok 0")
	s.do("1 get a k", "1 ok 1 =2")
	s.do("1 get a l", "1 ok 1")
	s.do("1 get a m", "1 ok 1 =")
	s.do("1 get a n", "1 ok 1 =1")
	s.do("1 get b k", "1 ok 1 =5")
	s.do("1 get b l", "1 ok 1")
	s.do("1 scan a a z", "1 ok 1 k=2 m= n=1")
	s.do("1 scan a k m", "1 ok 1 k=2 m=")
	s.do("1 scan a l l", "1 ok 1")
	s.do("1 scan a z a", "1 ok 1")
	s.do("1 scan b a z", "1 ok 1 k=5")
	s.do("1 scan c a z", "1 ok 1")
	s.do("1 put a l 3", "1 ok 0")
	s.do("1 delete a k", "1 ok 0")
	s.do("1 scan a a z", "1 ok 1 l=3 m= n=1")
	s.do("2 begin", "2 ok 1")
	s.do("2 get a k", "2 ok 1 =1")
	s.do("1 commit")
	s.do("2 scan a a z", "2 ok 1 k=1 l=1 n=1")
	s.do("sync", "1 ok 2")
	s.check(t, "up 2 0 a:l=3,m=,n=1 b:k=5")
}

// P11.3: a write too many is refused; the transaction has those that it had, and may write there again.
func TestWritesFull(t *testing.T) {
	for _, more := range []string{"put a Z 1", "delete a Z", "put b A 1", "delete b A"} {
		var s story
		keys := keysOf(api.MaxWrites)
		s.do("0 begin", "0 ok 0")
		for _, k := range keys {
			s.do("0 put a "+k+" 1", "0 ok 0")
		}
		s.do("0 "+more, "0 full")
		s.do("0 get a Z", "0 ok 0")
		s.do("0 put a A 2", "0 ok 0")
		s.do("0 delete a B", "0 ok 0")
		s.do("0 put a B 1", "0 ok 0")
		s.do("0 put a A 1", "0 ok 0")
		s.do("0 "+more, "0 full")
		s.do("0 commit")
		s.do("sync", "0 ok 1")
		s.check(t, "up 1 0"+shownTenant("a", keys))
	}
}

// readAll: a session begins, and reads as much as it may, of b.
func readAll(s *story, x string, turn int) {
	s.do(x+" begin", fmt.Sprint(x, " ok ", turn))
	for i := range api.MaxReads {
		s.do(fmt.Sprintf("%s get b %02d", x, i), fmt.Sprint(x, " ok ", turn))
	}
}

// P11.3: a read too many is refused, and tells nothing; what was read, or written, may be read again.
func TestReadsFull(t *testing.T) {
	var s story
	s.synced(0, 0, "a", "k")
	readAll(&s, "1", 1)
	s.do("1 get a k", "1 full")
	s.do("1 scan a a z", "1 full")
	s.do("1 scan b 00 00", "1 full")
	s.do("1 get b 00", "1 ok 1")
	s.do("1 get b 19", "1 ok 1")
	s.do("1 put a k 2", "1 ok 0")
	s.do("1 get a k", "1 ok 1 =2")
	s.do("1 scan a k k", "1 full")
	s.do("1 delete a k", "1 ok 0")
	s.do("1 get a k", "1 ok 1")
	s.do("1 put a m 2", "1 ok 0")
	s.do("1 get a m", "1 ok 1 =2")
	s.synced(0, 1, "a", "k", "l")
	s.do("1 commit")
	s.do("sync", "1 ok 3")
	s.check(t, "up 3 0 a:l=1,m=2")
}

// P11.3: the same Scan is noted once; a Get of one of its keys is another read.
func TestReadsOnce(t *testing.T) {
	var s story
	s.do("0 begin", "0 ok 0")
	for range 2 * api.MaxReads {
		s.do("0 scan a a z", "0 ok 0")
		s.do("0 get a k", "0 ok 0")
		s.do("0 scan a k k", "0 ok 0")
	}
	for i := range api.MaxReads - 3 {
		s.do(fmt.Sprintf("0 get b %02d", i), "0 ok 0")
	}
	s.do("0 get a l", "0 full")
	s.do("0 scan a a z", "0 ok 0")
	s.do("0 get a k", "0 ok 0")
	s.check(t, "up 0 0")
}

// fill a tenant with so many keys, from the turn on, ten a commit.
func fill(s *story, turn int, name string, keys []string) (next int) {
	for len(keys) > 0 {
		n := min(len(keys), api.MaxWrites)
		s.synced(0, turn, name, keys[:n]...)
		turn, keys = turn+1, keys[n:]
	}
	return turn
}

// P11.3: a Scan that would tell too many pairs on the way is refused, and is not noted.
func TestScanFull(t *testing.T) {
	keys := keysOf(api.MaxPairs)
	last := keys[len(keys)-1]
	shown := strings.Join(keys, "=1 ") + "=1"
	var s story
	turn := fill(&s, 0, "a", keys)
	s.do("1 begin", fmt.Sprint("1 ok ", turn))
	s.do("1 put a A 1", "1 ok 0")
	s.do("1 scan a A "+last, fmt.Sprint("1 ok ", turn, " ", shown))
	s.do("1 abort", "1 ok 0")
	s.do("1 begin", fmt.Sprint("1 ok ", turn))
	s.do("1 put a AA 2", "1 ok 0")
	s.do("1 scan a A "+last, "1 full")
	s.do("1 delete a A", "1 ok 0")
	s.do("1 scan a A "+last, "1 full")
	s.do("1 scan a AA "+last, fmt.Sprint("1 ok ", turn, " AA=2", strings.TrimPrefix(shown, "A=1")))
	s.do("1 put b k 1", "1 ok 0")
	s.synced(0, turn, "a", "A")
	s.do("1 commit", "1 full")
	s.check(t, fmt.Sprint("up ", turn+1, " 0", shownTenant("a", keys)))
}

// P11.3: what makes room ahead of what needs it is no pair on the way.
func TestScanMakesRoom(t *testing.T) {
	keys := keysOf(api.MaxPairs)
	last := keys[len(keys)-1]
	var s story
	turn := fill(&s, 0, "a", keys)
	s.do("1 begin", fmt.Sprint("1 ok ", turn))
	s.do("1 delete a A", "1 ok 0")
	s.do("1 put a AA 1", "1 ok 0")
	s.do("1 scan a A "+last, fmt.Sprint("1 ok ", turn, " AA=1 ", strings.Join(keys[1:], "=1 "), "=1"))
	s.do("1 commit")
	s.do("sync", fmt.Sprint("1 ok ", turn+1))
	keys[0] = "AA"
	s.check(t, fmt.Sprint("up ", turn+1, " 0", shownTenant("a", keys)))
}
