package server

import (
	"fmt"
	"testing"

	"canopy/api"
)

// P11.4: a transaction that writes nothing is told of its start at once, whatever it has read, and however many wait.
func TestCommitWithoutWrites(t *testing.T) {
	var s story
	s.synced(0, 0, "a", "k")
	s.do("7 begin", "7 ok 1")
	s.do("7 get a k", "7 ok 1 =1")
	s.do("7 scan a a z", "7 ok 1 k=1")
	s.synced(0, 1, "a", "k")
	for x := range api.MaxQueue {
		s.commit(x, 2, "a", "k")
	}
	s.do("7 commit", "7 ok 1")
	s.do("7 commit", "7 state")
	s.do("7 begin", "7 ok 2")
	s.do("7 commit", "7 ok 2")
	s.check(t, "up 2 6 a:k=1")
}

// P11.4: so many commits wait; one more is refused, and its transaction goes on.
func TestQueueFull(t *testing.T) {
	var s story
	s.do("7 begin", "7 ok 0")
	s.do("7 get b l", "7 ok 0")
	s.do("7 put b k 3", "7 ok 0")
	var told []string
	for x := range api.MaxQueue {
		s.commit(x, 0, "a", fmt.Sprint(x))
		told = append(told, fmt.Sprint(x, " ok ", x+1))
	}
	s.do("7 commit", "7 full")
	s.do("7 commit", "7 full")
	s.do("7 get b k", "7 ok 0 =3")
	s.do("7 put b m 4", "7 ok 0")
	s.check(t, "up 0 6")
	s.do("sync", told...)
	s.do("7 commit", "7 gone")
	s.check(t, "up 6 0 a:0=1,1=1,2=1,3=1,4=1,5=1")
}

// P11.4: behind a crash nothing waits, so that the queue has room.
func TestQueueBehindCrash(t *testing.T) {
	var s story
	s.synced(0, 0, "a", "x")
	for x := range api.MaxQueue {
		s.commit(x, 1, "a", "k")
	}
	s.do("7 begin", "7 ok 1")
	s.do("7 put b k 3", "7 ok 0")
	s.do("7 commit", "7 full")
	s.do("crash 0")
	s.do("start")
	for x := range api.MaxQueue {
		s.commit(x, 1, "a", "l")
	}
	s.do("7 begin", "7 ok 1")
	s.do("7 put b k 3", "7 ok 0")
	s.do("7 commit", "7 full")
	s.do("crash 0")
	s.do("start")
	s.synced(7, 1, "b", "k")
	s.check(t, "up 2 0 a:x=1 b:k=1")
}

// commitsUpTo turn: one key is written over and over.
func commitsUpTo(s *story, from, to int) {
	for turn := from; turn < to; turn++ {
		s.synced(0, turn, "a", "k")
	}
}

// P11.4: so many commits there are; one more is refused, its transaction goes on, and reads are served.
func TestCommitsFull(t *testing.T) {
	var s story
	commitsUpTo(&s, 0, api.MaxCommits-2)
	s.commit(1, api.MaxCommits-2, "b", "k")
	s.commit(2, api.MaxCommits-2, "b", "l")
	s.do("3 begin", "3 ok 298")
	s.do("3 put c k 1", "3 ok 0")
	s.do("3 commit", "3 full")
	s.do("sync", "1 ok 299", "2 ok 300")
	s.do("3 commit", "3 full")
	s.do("3 get c k", "3 ok 298 =1")
	s.do("3 get b k", "3 ok 298")
	s.do("3 commit", "3 full")
	s.do("3 abort", "3 ok 0")
	s.do("3 begin", "3 ok 300")
	s.do("3 get b k", "3 ok 300 =1")
	s.do("3 commit", "3 ok 300")
	s.do("4 prove b l", "4 ok 300 =1 proof")
	s.do("crash 0")
	s.do("start")
	s.do("3 begin", "3 ok 300")
	s.do("3 delete a k", "3 ok 0")
	s.do("3 commit", "3 full")
	s.check(t, "up 300 0 a:k=1 b:k=1,l=1")
}

// P11.4: a commit that was lost in a crash leaves its Turn to another one.
func TestCommitsFullAndLost(t *testing.T) {
	var s story
	commitsUpTo(&s, 0, api.MaxCommits-1)
	s.commit(1, api.MaxCommits-1, "b", "k")
	s.do("2 begin", "2 ok 299")
	s.do("2 put b l 1", "2 ok 0")
	s.do("2 commit", "2 full")
	s.do(fmt.Sprint("crash ", recordSize-1))
	s.do("start")
	s.synced(2, api.MaxCommits-1, "b", "l")
	s.check(t, "up 300 0 a:k=1 b:l=1")
}

// clashes: a session reads, another one writes, then the first one commits a write elsewhere.
func clashes(t *testing.T, read, write string, synced, clash bool) {
	t.Helper()
	var s story
	s.do("0 begin", "0 ok 0")
	s.do("1 begin", "1 ok 0")
	s.do("0 "+read, "0 ok 0")
	s.do("1 "+write, "1 ok 0")
	s.do("1 commit")
	if synced {
		s.do("sync", "1 ok 1")
	}
	s.do("0 put z z 1", "0 ok 0")
	if clash {
		s.do("0 commit", "0 clash")
		s.do("0 commit", "0 state")
		s.do("0 abort", "0 state")
		s.do("0 begin", map[bool]string{false: "0 ok 0", true: "0 ok 1"}[synced])
		s.do("0 put z y 1", "0 ok 0")
	}
	s.do("0 commit")
	if synced {
		s.do("sync", "0 ok 2")
	} else {
		s.do("sync", "1 ok 1", "0 ok 2")
	}
	o, e := Run(s.acts)
	if e != api.OK {
		t.Fatal(e)
	}
	s.check(t, showEnd(o))
	tenant := o.Forest[len(o.Forest)-1]
	want := map[bool]string{false: "z", true: "y"}[clash]
	if o.Turn != 2 || string(tenant.Name) != "z" || len(tenant.Pairs) != 1 || string(tenant.Pairs[0].Key) != want {
		t.Errorf("%s, %s: the end is %s", read, write, showEnd(o))
	}
}

// P11.4: it clashes, if what was read was written since, synced or not, even if nothing comes of that write.
func TestClash(t *testing.T) {
	for _, synced := range []bool{false, true} {
		clashes(t, "get a k", "put a k 1", synced, true)
		clashes(t, "get a k", "delete a k", synced, true)
		clashes(t, "get a k", "put a l 1", synced, false)
		clashes(t, "get a k", "put a kk 1", synced, false)
		clashes(t, "get a k", "put b k 1", synced, false)
		clashes(t, "scan a k m", "put a k 1", synced, true)
		clashes(t, "scan a k m", "put a l 1", synced, true)
		clashes(t, "scan a k m", "delete a m", synced, true)
		clashes(t, "scan a k m", "put a j 1", synced, false)
		clashes(t, "scan a k m", "put a ma 1", synced, false)
		clashes(t, "scan a k m", "put b l 1", synced, false)
		clashes(t, "scan a m k", "put a l 1", synced, false)
	}
}

func (s *story) reads(x, ask string, turn int) {
	s.do(x+" begin", fmt.Sprint(x, " ok ", turn))
	s.do(x+" "+ask, fmt.Sprint(x, " ok ", turn))
}

// P11.4: two that write the same without reading do not clash: the later commit's write stays.
func TestBlindWrites(t *testing.T) {
	var s story
	for x, value := range []string{"5", "6", "7"} {
		s.do(fmt.Sprint(x, " begin"), fmt.Sprint(x, " ok 0"))
		s.do(fmt.Sprint(x, " put a k ", value), fmt.Sprint(x, " ok 0"))
		s.do(fmt.Sprint(x, " get a k"), fmt.Sprint(x, " ok 0 =", value))
	}
	s.do("1 commit")
	s.do("2 commit")
	s.do("0 commit")
	s.do("sync", "1 ok 1", "2 ok 2", "0 ok 3")
	s.check(t, "up 3 0 a:k=5")
}

// P11.4: a read ahead of the own write is a read; one behind it is none.
func TestReadAheadOfOwnWrite(t *testing.T) {
	var s story
	s.reads("0", "get a k", 0)
	s.do("0 put a k 1", "0 ok 0")
	s.do("1 begin", "1 ok 0")
	s.do("1 put a k 2", "1 ok 0")
	s.do("1 get a k", "1 ok 0 =2")
	s.commit(2, 0, "a", "k")
	s.do("0 commit", "0 clash")
	s.do("1 commit")
	s.do("sync", "2 ok 1", "1 ok 2")
	s.check(t, "up 2 0 a:k=2")
}

// P11.4: a Scan over what the transaction has written is a read all the same.
func TestScanOfOwnWriteClashes(t *testing.T) {
	var s story
	s.do("0 begin", "0 ok 0")
	s.do("0 put a k 1", "0 ok 0")
	s.do("0 scan a k k", "0 ok 0 k=1")
	s.commit(2, 0, "a", "k")
	s.do("0 commit", "0 clash")
	s.check(t, "up 0 1")
}

// P11.4: what was committed up to the start clashes with nothing, nor does what a crash has lost.
func TestNoClash(t *testing.T) {
	var s story
	s.synced(0, 0, "a", "k")
	s.commit(1, 1, "a", "l")
	s.do("crash 0")
	s.do("start")
	s.do("0 begin", "0 ok 1")
	s.do("0 get a k", "0 ok 1 =1")
	s.do("0 get a l", "0 ok 1")
	s.do("0 put a l 2", "0 ok 0")
	s.do("0 commit")
	s.do("sync", "0 ok 2")
	s.check(t, "up 2 0 a:k=1,l=2")
}

// P11.4: of two that have read what the other one writes only the first one commits.
func TestWriteSkew(t *testing.T) {
	var s story
	s.reads("0", "get a k", 0)
	s.reads("1", "get a l", 0)
	s.do("0 put a l 1", "0 ok 0")
	s.do("1 put a k 1", "1 ok 0")
	s.do("1 commit")
	s.do("0 commit", "0 clash")
	s.do("sync", "1 ok 1")
	s.check(t, "up 1 0 a:k=1")
}

// P11.4: what does not fit behind all commits, those that wait, too, is refused: the transaction is over, no Turn is taken.
func TestNoRoomForPairs(t *testing.T) {
	keys := keysOf(api.MaxPairs)
	var s story
	turn := fill(&s, 0, "a", keys[:api.MaxPairs-1])
	s.commit(1, turn, "a", keys[api.MaxPairs-1])
	s.do("2 begin", fmt.Sprint("2 ok ", turn))
	s.do("2 put b k 1", "2 ok 0")
	s.do("2 put a ~ 1", "2 ok 0")
	s.do("2 commit", "2 full")
	s.do("2 commit", "2 state")
	s.commit(2, turn, "a", "A")
	s.do("sync", fmt.Sprint("1 ok ", turn+1), fmt.Sprint("2 ok ", turn+2))
	s.check(t, fmt.Sprint("up ", turn+2, " 0", shownTenant("a", keys)))
}

// P11.4: so it is with tenants; one that is emptied ahead makes room, one that is emptied behind does not.
func TestNoRoomForTenants(t *testing.T) {
	end := ""
	var s story
	for i := range api.MaxTenants {
		name := string(rune('a' + i))
		s.synced(0, i, name, "k")
		end += " " + name + ":k=1"
	}
	s.do("1 begin", "1 ok 8")
	s.do("1 put x k 1", "1 ok 0")
	s.do("1 delete h k", "1 ok 0")
	s.do("1 get x k", "1 ok 8 =1")
	s.do("1 commit", "1 full")
	s.do("1 begin", "1 ok 8")
	s.check(t, "up 8 0"+end)
	s.do("1 delete h k", "1 ok 0")
	s.do("1 put x k 1", "1 ok 0")
	s.do("1 commit")
	s.do("sync", "1 ok 9")
	s.check(t, "up 9 0"+end[:len(end)-len(" h:k=1")]+" x:k=1")
}

// P11.4: a clash is told ahead of a lack of room, and a full queue ahead of both.
func TestFirstOfSeveral(t *testing.T) {
	var s story
	turn := fill(&s, 0, "a", keysOf(api.MaxPairs))
	s.do("7 begin", fmt.Sprint("7 ok ", turn))
	s.do("7 get b k", fmt.Sprint("7 ok ", turn))
	s.do("7 put a ~ 1", "7 ok 0")
	for x := range api.MaxQueue {
		s.commit(x, turn, "b", "k")
	}
	s.do("7 commit", "7 full")
	s.do("7 get a ~", fmt.Sprint("7 ok ", turn, " =1"))
	s.check(t, fmt.Sprint("up ", turn, " 6", shownTenant("a", keysOf(api.MaxPairs))))

	var c story
	fill(&c, 0, "a", keysOf(api.MaxPairs))
	c.do("7 begin", fmt.Sprint("7 ok ", turn))
	c.do("7 get b k", fmt.Sprint("7 ok ", turn))
	c.do("7 put a ~ 1", "7 ok 0")
	c.commit(1, turn, "b", "k")
	c.do("7 commit", "7 clash")
	c.do("7 commit", "7 state")
	c.check(t, fmt.Sprint("up ", turn, " 1", shownTenant("a", keysOf(api.MaxPairs))))
}

// P11.4: a Delete of what is not there is a commit as any other one.
func TestDeleteOfNothing(t *testing.T) {
	var s story
	s.do("0 begin", "0 ok 0")
	s.do("0 delete a k", "0 ok 0")
	s.do("0 commit")
	s.check(t, "up 0 1")
	s.do("sync", "0 ok 1")
	s.do("crash 0")
	s.check(t, "down 1 0")
}

// P11.4: the longest commits there are, as many as there may be, fit on the tape, and are recovered.
func TestLongestCommits(t *testing.T) {
	var l []api.Act
	ask := func(b ...byte) { l = append(l, api.Act{Kind: api.Ask, Data: b}) }
	for turn := range api.MaxCommits {
		ask(api.Begin)
		for i := range api.MaxWrites {
			data := []byte{api.Put, api.MaxName}
			data = append(data, fmt.Sprintf("%08d", i%api.MaxTenants)...)
			data = append(append(data, api.MaxKey), fmt.Sprintf("%016d", (turn*api.MaxWrites+i)/api.MaxTenants%api.MaxPairs)...)
			data = append(append(data, api.MaxValue), fmt.Sprintf("%032d", turn)...)
			ask(data...)
		}
		ask(api.Commits)
		if turn < api.MaxCommits-1 {
			l = append(l, api.Act{Kind: api.Sync})
		}
	}
	l = append(l, api.Act{Kind: api.Crash, Keep: api.MaxBytes})
	o, e := Run(l)
	if e != api.OK || o.Up || o.Turn != api.MaxCommits || o.Pending != 0 || len(o.Forest) != api.MaxTenants {
		t.Fatalf("%s %d", showEnd(o), e)
	}
	last := api.MaxCommits*12 - 1
	if len(o.Replies) != last {
		t.Errorf("%d replies, want %d", len(o.Replies), last)
	}
}
