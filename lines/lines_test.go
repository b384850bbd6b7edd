package lines

import (
	"bytes"
	"encoding/hex"
	"fmt"
	"math"
	"slices"
	"strings"
	"testing"

	"canopy/api"
)

// die: numbers that look drawn, the same each time.
type die uint64

func (d *die) n(most int) int {
	*d = *d*6364136223846793005 + 1442695040888963407
	return int(uint64(*d>>33) % uint64(most))
}

func (d *die) bytes(n int) []byte {
	b := make([]byte, n)
	for i := range b {
		b[i] = byte(d.n(256))
	}
	return b
}

// act that may be, drawn; now and then at a limit.
func (d *die) act() api.Act {
	switch d.n(6) {
	case 0, 1:
		return ask(d.n(api.MaxSessions), string(d.bytes(d.n(7))))
	case 2:
		return crash(d.n(api.MaxBytes + 1))
	case 3:
		return crash([]int{0, 1, 9, 10, 99, 100, api.MaxBytes - 1, api.MaxBytes}[d.n(8)])
	case 4:
		return alone(api.Sync)
	}
	return alone(api.Start)
}

func (d *die) acts(most int) []api.Act {
	var out []api.Act
	for range d.n(most + 1) {
		out = append(out, d.act())
	}
	return out
}

func ask(session int, data string) api.Act {
	return api.Act{Kind: api.Ask, Session: session, Data: []byte(data)}
}

func crash(keep int) api.Act { return api.Act{Kind: api.Crash, Keep: keep} }
func alone(kind int) api.Act { return api.Act{Kind: kind} }

func same(a, b api.Act) bool {
	return a.Kind == b.Kind && a.Session == b.Session && a.Keep == b.Keep && bytes.Equal(a.Data, b.Data)
}

// wordedLine of an act that may be, as P10.2 words it.
func wordedLine(a api.Act) string {
	switch a.Kind {
	case api.Ask:
		return fmt.Sprintf("ask %d %s\n", a.Session, hex.EncodeToString(a.Data))
	case api.Sync:
		return "sync\n"
	case api.Crash:
		return fmt.Sprintf("crash %d\n", a.Keep)
	}
	return "start\n"
}

func wordedText(l []api.Act) string {
	var out strings.Builder
	for _, a := range l {
		out.WriteString(wordedLine(a))
	}
	return out.String()
}

// wordedCheck: the errors of P10.1, each with its own words, in their order.
func wordedCheck(a api.Act) api.Errno {
	isAsk, isCrash := a.Kind == api.Ask, a.Kind == api.Crash
	applies := []struct {
		yes bool
		e   api.Errno
	}{
		{!slices.Contains([]int{api.Ask, api.Sync, api.Crash, api.Start}, a.Kind), api.ErrKind},
		{isAsk && !(0 <= a.Session && a.Session <= api.MaxSessions-1), api.ErrRange},
		{isCrash && !(0 <= a.Keep && a.Keep <= api.MaxBytes), api.ErrRange},
		{len(a.Data) > api.MaxData, api.ErrSize},
		{!isAsk && a.Session != 0, api.ErrForm},
		{!isAsk && len(a.Data) != 0, api.ErrForm},
		{!isCrash && a.Keep != 0, api.ErrForm},
	}
	for _, x := range applies {
		if x.yes {
			return x.e
		}
	}
	return api.OK
}

// P10.1: one act of each way to be refused, and those at the limits.
func TestCheck(t *testing.T) {
	full := strings.Repeat("d", api.MaxData)
	long := []byte(full + "d")
	for _, s := range []struct {
		what string
		a    api.Act
		want api.Errno
	}{
		{"an ask", ask(1, "\x01"), api.OK},
		{"an ask without data", ask(0, ""), api.OK},
		{"an ask of the last session, with as many data as may be", ask(api.MaxSessions-1, full), api.OK},
		{"a sync", alone(api.Sync), api.OK},
		{"a sync with a list of no bytes", api.Act{Kind: api.Sync, Data: []byte{}}, api.OK},
		{"a crash that keeps nothing", crash(0), api.OK},
		{"a crash that keeps all", crash(api.MaxBytes), api.OK},
		{"a start", alone(api.Start), api.OK},
		{"the kind 0", alone(0), api.ErrKind},
		{"the kind 5", alone(5), api.ErrKind},
		{"the kind -1", alone(-1), api.ErrKind},
		{"the least kind", alone(math.MinInt), api.ErrKind},
		{"the greatest kind", alone(math.MaxInt), api.ErrKind},
		{"no kind, and everything else wrong", api.Act{Kind: 5, Session: -1, Keep: -1, Data: long}, api.ErrKind},
		{"a session below", ask(-1, ""), api.ErrRange},
		{"a session above", ask(api.MaxSessions, ""), api.ErrRange},
		{"the greatest session", ask(math.MaxInt, ""), api.ErrRange},
		{"a session above, long data and a keep", api.Act{Kind: api.Ask, Session: 8, Keep: 1, Data: long}, api.ErrRange},
		{"a keep below", crash(-1), api.ErrRange},
		{"a keep above", crash(api.MaxBytes + 1), api.ErrRange},
		{"the least keep", crash(math.MinInt), api.ErrRange},
		{"a keep above, long data and a session", api.Act{Kind: api.Crash, Session: 1, Keep: api.MaxBytes + 1, Data: long}, api.ErrRange},
		{"long data", ask(0, string(long)), api.ErrSize},
		{"long data and a keep", api.Act{Kind: api.Ask, Keep: 1, Data: long}, api.ErrSize},
		{"long data of a sync", api.Act{Kind: api.Sync, Data: long}, api.ErrSize},
		{"long data of a crash, and a session", api.Act{Kind: api.Crash, Session: 1, Data: long}, api.ErrSize},
		{"long data of a start, a session and a keep", api.Act{Kind: api.Start, Session: -1, Keep: -1, Data: long}, api.ErrSize},
		{"an ask with a keep", api.Act{Kind: api.Ask, Keep: 1}, api.ErrForm},
		{"an ask with a keep below", api.Act{Kind: api.Ask, Keep: -1}, api.ErrForm},
		{"an ask with a keep above", api.Act{Kind: api.Ask, Keep: api.MaxBytes + 1}, api.ErrForm},
		{"a sync with a session", api.Act{Kind: api.Sync, Session: 1}, api.ErrForm},
		{"a sync with a session above", api.Act{Kind: api.Sync, Session: api.MaxSessions}, api.ErrForm},
		{"a sync with data", api.Act{Kind: api.Sync, Data: []byte{0}}, api.ErrForm},
		{"a sync with a keep", api.Act{Kind: api.Sync, Keep: 1}, api.ErrForm},
		{"a crash with a session", api.Act{Kind: api.Crash, Session: -1, Keep: 1}, api.ErrForm},
		{"a crash with data", api.Act{Kind: api.Crash, Keep: 1, Data: []byte(full)}, api.ErrForm},
		{"a start with a session", api.Act{Kind: api.Start, Session: 7}, api.ErrForm},
		{"a start with data", api.Act{Kind: api.Start, Data: []byte("d")}, api.ErrForm},
		{"a start with a keep below", api.Act{Kind: api.Start, Keep: -1}, api.ErrForm},
	} {
		if got := Check(s.a); got != s.want {
			t.Errorf("%s: %v, want %v", s.what, got, s.want)
		}
		if got := wordedCheck(s.a); got != s.want {
			t.Errorf("%s: the worded form: %v, want %v", s.what, got, s.want)
		}
	}
}

// P10.1 and P10.3: each kind with each session, keep and length of data that is at a limit or beside it; Show refuses what Check refuses.
func TestCheckAtAllLimits(t *testing.T) {
	long := make([]byte, api.MaxData+1)
	for _, kind := range []int{math.MinInt, -1, 0, 1, 2, 3, 4, 5, 257, math.MaxInt} {
		for _, session := range []int{math.MinInt, -1, 0, 1, api.MaxSessions - 1, api.MaxSessions, math.MaxInt} {
			for _, keep := range []int{math.MinInt, -1, 0, 1, api.MaxBytes - 1, api.MaxBytes, api.MaxBytes + 1, math.MaxInt} {
				for _, size := range []int{0, 1, api.MaxData - 1, api.MaxData, api.MaxData + 1} {
					a := api.Act{Kind: kind, Session: session, Keep: keep, Data: long[:size]}
					what := fmt.Sprintf("kind %d, session %d, keep %d, %d data", kind, session, keep, size)
					want := wordedCheck(a)
					if got := Check(a); got != want {
						t.Fatalf("%s: %v, want %v", what, got, want)
					}
					text, place, e := Show([]api.Act{alone(api.Sync), a})
					if want == api.OK && (text != "sync\n"+wordedLine(a) || place != 0 || e != api.OK) {
						t.Fatalf("%s: Show: %d, %v", what, place, e)
					}
					if want != api.OK && (text != "" || place != 1 || e != want) {
						t.Fatalf("%s: Show: %q, %d, %v, want %v", what, text, place, e, want)
					}
				}
			}
		}
	}
}
