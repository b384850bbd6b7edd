package server

import (
	"fmt"
	"strings"
	"testing"

	"canopy/api"
)

// P11.1: a server that is given nothing is up, and has nothing.
func TestNoActs(t *testing.T) {
	for _, l := range [][]api.Act{nil, {}} {
		o, e := Run(l)
		if e != api.OK || showEnd(o) != "up 0 0" || len(o.Replies) != 0 {
			t.Errorf("%v %d", o, e)
		}
	}
}

// The document's example of the whole.
func TestExample(t *testing.T) {
	var s story
	s.do("0 begin", "0 ok 0")
	s.do("1 begin", "1 ok 0")
	s.do("1 get a k", "1 ok 0")
	s.do("0 put a k 7", "0 ok 0")
	s.do("0 commit")
	s.do("sync", "0 ok 1")
	s.do("2 prove a k", "2 ok 1 =7 proof")
	s.do("1 put a l 8", "1 ok 0")
	s.do("1 commit", "1 clash")
	s.check(t, "up 1 0 a:k=7")
}

// P11.1: so many acts are done; of one more nothing is, whatever else is wrong with them.
func TestTooManyActs(t *testing.T) {
	l := make([]api.Act, api.MaxSteps)
	for i := range l {
		l[i] = api.Act{Kind: api.Ask, Session: i % api.MaxSessions, Data: []byte{api.Begin}}
	}
	o, e := Run(l)
	if e != api.OK || len(o.Replies) != api.MaxSteps || !o.Up {
		t.Fatalf("%d replies, %d", len(o.Replies), e)
	}
	for i, r := range o.Replies {
		want := api.ErrState
		if i < api.MaxSessions {
			want = api.OK
		}
		if r.Session != i%api.MaxSessions || r.Code != want {
			t.Fatalf("reply %d: %v", i, r)
		}
	}
	for _, a := range []api.Act{{Kind: api.Sync}, {Kind: 9}} {
		refused(t, append(l[:api.MaxSteps:api.MaxSteps], a), api.ErrSize)
	}
	l[0] = api.Act{Kind: api.Ask, Session: -1}
	refused(t, append(l, l[0]), api.ErrSize)
	refused(t, l, api.ErrRange)
}

func refused(t *testing.T, l []api.Act, want api.Errno) {
	t.Helper()
	o, e := Run(l)
	if e != want || o.Up || o.Turn != 0 || o.Pending != 0 || len(o.Forest) != 0 || len(o.Replies) != 0 {
		t.Errorf("%v %d, want nothing and %d", o, e, want)
	}
}

// P11.1: an act that may not be is refused as chapter 10 says, wherever it stands; of several it is the first one.
func TestWrongActs(t *testing.T) {
	wrong := []struct {
		act  api.Act
		want api.Errno
	}{
		{api.Act{}, api.ErrKind},
		{api.Act{Kind: -1}, api.ErrKind},
		{api.Act{Kind: api.Start + 1, Session: -1}, api.ErrKind},
		{api.Act{Kind: api.Ask, Session: -1, Data: []byte{api.Begin}}, api.ErrRange},
		{api.Act{Kind: api.Ask, Session: api.MaxSessions, Data: []byte{api.Begin}}, api.ErrRange},
		{api.Act{Kind: api.Crash, Keep: -1}, api.ErrRange},
		{api.Act{Kind: api.Crash, Keep: api.MaxBytes + 1}, api.ErrRange},
		{api.Act{Kind: api.Ask, Data: make([]byte, api.MaxData+1)}, api.ErrSize},
		{api.Act{Kind: api.Ask, Keep: 1, Data: []byte{api.Begin}}, api.ErrForm},
		{api.Act{Kind: api.Sync, Session: 1}, api.ErrForm},
		{api.Act{Kind: api.Start, Keep: 1}, api.ErrForm},
		{api.Act{Kind: api.Crash, Data: []byte{1}}, api.ErrForm},
	}
	var s story
	s.synced(0, 0, "a", "k")
	s.do("crash 0")
	for i, w := range wrong {
		refused(t, []api.Act{w.act}, w.want)
		refused(t, append([]api.Act{w.act}, s.acts...), w.want)
		refused(t, append(s.acts[:len(s.acts):len(s.acts)], w.act), w.want)
		for _, other := range wrong[i+1:] {
			refused(t, append([]api.Act{s.acts[0], w.act}, other.act), w.want)
			refused(t, append([]api.Act{s.acts[0], other.act}, w.act), other.want)
		}
	}
}

// P11.1: the edges of what an act may be.
func TestActsAtTheirEdges(t *testing.T) {
	o, e := Run([]api.Act{
		{Kind: api.Ask, Session: api.MaxSessions - 1, Data: []byte{api.Begin}},
		{Kind: api.Ask, Session: 0, Data: make([]byte, api.MaxData)},
		{Kind: api.Ask, Session: 1, Data: append([]byte{api.Begin}, make([]byte, api.MaxData-1)...)},
		{Kind: api.Crash, Keep: api.MaxBytes},
	})
	want := []string{"7 ok 0", "0 kind", "1 form"}
	if e != api.OK || len(o.Replies) != len(want) || showEnd(o) != "down 0 0" {
		t.Fatalf("%v %d", o, e)
	}
	for i, w := range want {
		if show(o.Replies[i]) != w {
			t.Errorf("%s, want %s", show(o.Replies[i]), w)
		}
	}
}

// P11.1: a Sync tells those that wait in the order of their commits, and each of them once.
func TestSyncTellsByCommits(t *testing.T) {
	var s story
	for _, x := range []int{5, 2, 7, 0} {
		s.commit(x, 0, "a", fmt.Sprint(x))
	}
	s.do("sync", "5 ok 1", "2 ok 2", "7 ok 3", "0 ok 4")
	s.do("sync")
	s.do("7 begin", "7 ok 4")
	s.do("sync")
	s.commit(0, 4, "b", "k")
	s.do("sync", "0 ok 5")
	s.do("7 abort", "7 ok 0")
	s.check(t, "up 5 0 a:0=1,2=1,5=1,7=1 b:k=1")
}

// P11.1: a Sync does nothing to a transaction that goes on.
func TestSyncLeavesTransactions(t *testing.T) {
	var s story
	s.do("1 begin", "1 ok 0")
	s.do("1 put a l 2", "1 ok 0")
	s.synced(0, 0, "a", "k")
	s.do("1 get a l", "1 ok 0 =2")
	s.do("1 commit")
	s.do("sync", "1 ok 2")
	s.check(t, "up 2 0 a:k=1,l=2")
}

// recordSize: bytes that a commit of one write of this form takes on the tape: two of a length, four of turn and number, three parts behind their lengths, four of a digest.
const recordSize = 2 + 4 + 3 + len("a") + len("k") + len("1") + 4

// P11.1: of what was not synced a crash leaves the commits that are whole within Keep; these are synced, and nobody is told.
func TestCrashKeeps(t *testing.T) {
	ends := map[int]string{
		0: "1 0 a:k=1", recordSize - 1: "1 0 a:k=1",
		recordSize: "2 0 a:k=1,l=1", recordSize + 1: "2 0 a:k=1,l=1", 2*recordSize - 1: "2 0 a:k=1,l=1",
		2 * recordSize: "3 0 a:k=1,l=1,m=1", 2*recordSize + 1: "3 0 a:k=1,l=1,m=1", api.MaxBytes: "3 0 a:k=1,l=1,m=1",
	}
	for keep, end := range ends {
		var s story
		s.synced(0, 0, "a", "k")
		s.commit(3, 1, "a", "l")
		s.commit(1, 1, "a", "m")
		s.do(fmt.Sprint("crash ", keep))
		s.check(t, "down "+end)
		s.do("start")
		turn := end[:1]
		s.do("3 begin", "3 ok "+turn)
		s.do("sync")
		s.check(t, "up "+end)
	}
}

// P11.1: what is behind the last whole commit is off the tape: later commits stand right behind that one, and are recovered.
func TestCommitsBehindTornOnes(t *testing.T) {
	for keep := range 2 * recordSize {
		var s story
		s.synced(0, 0, "a", "k")
		s.commit(1, 1, "a", "x")
		s.do(fmt.Sprint("crash ", keep))
		s.do("start")
		turn, x := 1, ""
		if keep >= recordSize {
			turn, x = 2, ",x=1"
		}
		s.synced(1, turn, "a", "l")
		s.commit(2, turn+1, "a", "m")
		s.do(fmt.Sprint("crash ", recordSize))
		s.check(t, fmt.Sprintf("down %d 0 a:k=1,l=1,m=1%s", turn+2, x))
		s.do("start")
		s.commit(2, turn+2, "a", "n")
		s.do("crash 0")
		s.check(t, fmt.Sprintf("down %d 0 a:k=1,l=1,m=1%s", turn+2, x))
	}
}

// P11.1: behind a crash no session has begun anything, or waits.
func TestCrashEndsSessions(t *testing.T) {
	var s story
	s.do("0 begin", "0 ok 0")
	s.do("0 put a k 1", "0 ok 0")
	s.commit(1, 0, "a", "l")
	s.do("crash 0")
	s.do("start")
	for _, x := range []string{"0", "1"} {
		s.do(x+" get a k", x+" state")
		s.do(x+" commit", x+" state")
		s.do(x+" abort", x+" state")
		s.do(x+" begin", x+" ok 0")
		s.do(x+" get a k", x+" ok 0")
		s.do(x+" commit", x+" ok 0")
	}
	s.check(t, "up 0 0")
}

// P11.1: also where nothing waits a crash ends transactions, and leaves all that is synced.
func TestCrashWhereNothingWaits(t *testing.T) {
	var s story
	s.synced(0, 0, "a", "k")
	s.do("1 begin", "1 ok 1")
	s.do("crash 7")
	s.do("start")
	s.do("1 get a k", "1 state")
	s.do("1 begin", "1 ok 1")
	s.do("1 get a k", "1 ok 1 =1")
	s.check(t, "up 1 0 a:k=1")
}

// P11.1: a server that is down is neither synced nor crashed, and is asked in vain.
func TestDown(t *testing.T) {
	var s story
	s.synced(0, 0, "a", "k")
	s.commit(1, 1, "a", "l")
	s.do(fmt.Sprint("crash ", recordSize))
	for range 2 {
		s.do("sync")
		s.do("crash 0")
		s.do("0 begin", "0 over")
		s.do("2 prove a k", "2 over")
		s.do("3 commit", "3 over")
		s.do("4 raw", "4 over")
		s.do("5 raw ff", "5 over")
	}
	s.check(t, "down 2 0 a:k=1,l=1")
	s.do("start")
	s.do("1 begin", "1 ok 2")
	s.check(t, "up 2 0 a:k=1,l=1")
}

// P11.1: a server that is up is not changed by a Start.
func TestStartWhereUp(t *testing.T) {
	var s story
	s.do("0 begin", "0 ok 0")
	s.do("0 put a k 1", "0 ok 0")
	s.do("start")
	s.do("0 commit")
	s.do("start")
	s.do("0 begin", "0 state")
	s.check(t, "up 0 1")
	s.do("sync", "0 ok 1")
	s.check(t, "up 1 0 a:k=1")
}

// P11.5: the outcome tells what is synced, and how many commits wait.
func TestOutcome(t *testing.T) {
	var s story
	s.check(t, "up 0 0")
	s.commit(0, 0, "b", "k")
	s.check(t, "up 0 1")
	s.commit(1, 0, "a", "l", "k")
	s.check(t, "up 0 2")
	s.do("sync", "0 ok 1", "1 ok 2")
	s.check(t, "up 2 0 a:k=1,l=1 b:k=1")
	s.do("2 begin", "2 ok 2")
	s.do("2 delete b k", "2 ok 0")
	s.do("2 commit")
	s.check(t, "up 2 1 a:k=1,l=1 b:k=1")
	s.do("crash 0")
	s.check(t, "down 2 0 a:k=1,l=1 b:k=1")
	s.do("start")
	s.do("2 begin", "2 ok 2")
	s.do("2 delete b k", "2 ok 0")
	s.do("2 commit")
	s.do("sync", "2 ok 3")
	s.check(t, "up 3 0 a:k=1,l=1")
}

// P11.1: what was told is never lost: behind each crash, with whatever Keep, there is at least what was told.
func TestToldOutlastsCrashes(t *testing.T) {
	var s story
	end := ""
	for turn := range 40 {
		key := fmt.Sprintf("%02d", turn)
		s.synced(turn%api.MaxSessions, turn, "a", key)
		end += "," + key + "=1"
		s.commit(3, turn+1, "b", key)
		s.do(fmt.Sprint("crash ", turn%recordSize))
		s.do("start")
	}
	s.check(t, "up 40 0 a:"+strings.TrimPrefix(end, ","))
}
