package lines

import (
	"fmt"
	"regexp"
	"slices"
	"strconv"
	"strings"
	"testing"

	"canopy/api"
)

// form of an act's line, but for the limits of its number and its data.
var form = regexp.MustCompile(`^(?:(ask) (0|[1-9][0-9]*) ((?:[0-9a-f][0-9a-f])*)|(sync)|(crash) (0|[1-9][0-9]*)|(start))\n\z`)

// wordedAct of a line, and whether it is an act's.
func wordedAct(line string) (api.Act, bool) {
	m := form.FindStringSubmatch(line)
	switch {
	case m == nil:
		return api.Act{}, false
	case m[1] != "":
		session, err := strconv.Atoi(m[2])
		var data []byte
		for i := 0; i < len(m[3]); i += 2 {
			c, _ := strconv.ParseUint(m[3][i:i+2], 16, 8)
			data = append(data, byte(c))
		}
		return ask(session, string(data)), err == nil && session < api.MaxSessions && len(data) <= api.MaxData
	case m[5] != "":
		keep, err := strconv.Atoi(m[6])
		return crash(keep), err == nil && keep <= api.MaxBytes
	case m[4] != "":
		return alone(api.Sync), true
	}
	return alone(api.Start), true
}

// wordedRead of a text, as P10.4 words it.
func wordedRead(text string) ([]api.Act, int, api.Errno) {
	if len(text) > api.MaxText {
		return nil, 0, api.ErrSize
	}
	l := strings.SplitAfter(text, "\n")
	if l[len(l)-1] == "" {
		l = l[:len(l)-1]
	}
	var out []api.Act
	for i, line := range l {
		if i >= api.MaxSteps {
			return nil, i, api.ErrFull
		}
		a, ok := wordedAct(line)
		if !ok {
			return nil, i, api.ErrForm
		}
		out = append(out, a)
	}
	return out, 0, api.OK
}

// reads: what Read tells of a text must be these acts, this place and this error.
func reads(t *testing.T, what, text string, want []api.Act, wantPlace int, wantError api.Errno) {
	t.Helper()
	got, place, e := Read(text)
	if e != wantError || place != wantPlace || !slices.EqualFunc(got, want, same) {
		t.Fatalf("Read of %s: %d acts, %d, %v, want %d acts, %d, %v", what, len(got), place, e, len(want), wantPlace, wantError)
	}
}

// shows: what Show tells of acts must be this text, this place and this error.
func shows(t *testing.T, what string, l []api.Act, want string, wantPlace int, wantError api.Errno) {
	t.Helper()
	got, place, e := Show(l)
	if e != wantError || place != wantPlace || got != want {
		t.Fatalf("Show of %s: %d bytes, %d, %v, want %d bytes, %d, %v", what, len(got), place, e, len(want), wantPlace, wantError)
	}
}

// P10.2, P10.3 and P10.4: lines written out by hand, alone and one behind the other.
func TestLinesByHand(t *testing.T) {
	var acts []api.Act
	text := ""
	for _, s := range []struct {
		a    api.Act
		want string
	}{
		{ask(1, "\x01"), "ask 1 01\n"},
		{ask(0, ""), "ask 0 \n"},
		{ask(7, "\x00\x09\x0a\x10\x7f\xa0\xff"), "ask 7 00090a107fa0ff\n"},
		{ask(2, "sync\n"), "ask 2 73796e630a\n"},
		{ask(3, strings.Repeat("\xcd", api.MaxData)), "ask 3 " + strings.Repeat("cd", api.MaxData) + "\n"},
		{alone(api.Sync), "sync\n"},
		{crash(0), "crash 0\n"},
		{crash(9), "crash 9\n"},
		{crash(10), "crash 10\n"},
		{crash(100000), "crash 100000\n"},
		{crash(api.MaxBytes), "crash 200000\n"},
		{alone(api.Start), "start\n"},
	} {
		shows(t, strconv.Quote(s.want), []api.Act{s.a}, s.want, 0, api.OK)
		reads(t, strconv.Quote(s.want), s.want, []api.Act{s.a}, 0, api.OK)
		acts, text = append(acts, s.a), text+s.want
	}
	shows(t, "all of these", acts, text, 0, api.OK)
	reads(t, "all of these", text, acts, 0, api.OK)
	shows(t, "no acts", nil, "", 0, api.OK)
	shows(t, "an empty list", []api.Act{}, "", 0, api.OK)
	reads(t, "nothing", "", nil, 0, api.OK)
}

// P10.2: each session, each keep and each byte, there and back.
func TestEachNumber(t *testing.T) {
	var l []api.Act
	for c := range 256 {
		l = append(l, ask(c%api.MaxSessions, string([]byte{byte(c), byte(255 - c)})))
	}
	shows(t, "each byte", l, wordedText(l), 0, api.OK)
	reads(t, "each byte", wordedText(l), l, 0, api.OK)
	for from := 0; from <= api.MaxBytes; from += 50000 {
		l = nil
		for keep := from; keep < from+50000 && keep <= api.MaxBytes; keep++ {
			l = append(l, crash(keep))
		}
		shows(t, fmt.Sprintf("keeps from %d on", from), l, wordedText(l), 0, api.OK)
		reads(t, fmt.Sprintf("keeps from %d on", from), wordedText(l), l, 0, api.OK)
	}
}

// P10.3: the first act that may not be, and its place; too many acts are named ahead of that.
func TestShowRefuses(t *testing.T) {
	sync, bad := alone(api.Sync), alone(0)
	for _, s := range []struct {
		what  string
		l     []api.Act
		place int
		want  api.Errno
	}{
		{"a kind", []api.Act{bad}, 0, api.ErrKind},
		{"a kind behind others", []api.Act{sync, sync, bad}, 2, api.ErrKind},
		{"a kind ahead of others", []api.Act{bad, sync}, 0, api.ErrKind},
		{"a session, then a kind", []api.Act{sync, ask(8, ""), bad}, 1, api.ErrRange},
		{"a keep, then a session", []api.Act{sync, {Kind: api.Sync, Keep: 1}, sync, ask(8, "")}, 1, api.ErrForm},
		{"long data, twice", []api.Act{ask(1, "x"), sync, ask(0, strings.Repeat("x", api.MaxData+1)), ask(1, strings.Repeat("x", api.MaxData+1))}, 2, api.ErrSize},
	} {
		shows(t, s.what, s.l, "", s.place, s.want)
	}
	most := slices.Repeat([]api.Act{sync}, api.MaxSteps)
	shows(t, "as many acts as may be", most, strings.Repeat("sync\n", api.MaxSteps), 0, api.OK)
	most[api.MaxSteps-1] = bad
	shows(t, "as many acts as may be, the last one wrong", most, "", api.MaxSteps-1, api.ErrKind)
	shows(t, "an act more", slices.Repeat([]api.Act{sync}, api.MaxSteps+1), "", 0, api.ErrSize)
	shows(t, "an act more, one of them wrong", append(most, sync), "", 0, api.ErrSize)
	shows(t, "twice as many, all wrong", slices.Repeat([]api.Act{bad}, 2*api.MaxSteps), "", 0, api.ErrSize)
}

// P10.4: what is no act's line, alone and behind others.
func TestReadRefuses(t *testing.T) {
	for _, line := range []string{
		"\n", " \n", "\r\n", "x\n", "0\n", "1\n", "\x00\n", "\xff\n",
		"ask\n", "ask \n", "ask 1\n", "ask  \n", "ask  01\n", "ask 1  \n", "ask 1  01\n", "ask 1 01 \n", "ask 1 01 01\n", " ask 1 01\n",
		"ask 8 \n", "ask 10 01\n", "ask -1 01\n", "ask -0 01\n", "ask +1 01\n", "ask 01 01\n", "ask 00 01\n", "ask 0x1 01\n", "ask 1_0 01\n", "ask a 01\n", "ask 1. 01\n",
		"ask 18446744073709551617 01\n", "ask 9223372036854775808 01\n", "ask 4294967297 01\n", "ask 257 01\n", "ask " + strings.Repeat("9", 500) + " 01\n",
		"ask 1 0\n", "ask 1 011\n", "ask 1 0 1\n", "ask 1 0A\n", "ask 1 A0\n", "ask 1 FF\n", "ask 1 0g\n", "ask 1 g0\n", "ask 1 0x\n", "ask 1 0x01\n", "ask 1 -1\n", "ask 1 +1\n", "ask 1 01\r\n", "ask 1 \x00\x01\n", "ask 1 `0\n", "ask 1 /0\n", "ask 1 :0\n", "ask 1 \xff\xff\n",
		"ask 1 " + strings.Repeat("01", api.MaxData+1) + "\n", "ask 1 " + strings.Repeat("01", api.MaxData) + "0\n",
		"ask\t1 01\n", "ask 1\t01\n", "ask1 01\n", "ask 101\n", "Ask 1 01\n", "ASK 1 01\n", "asks 1 01\n", "as 1 01\n", "1 ask 01\n", "ask 01 1\n",
		"sync \n", " sync\n", "sync 0\n", "sync\r\n", "Sync\n", "syn\n", "syncs\n", "sync sync\n", "sync start\n", "sync\x00\n", "sync 0 01\n",
		"crash\n", "crash \n", "crash 01\n", "crash 00\n", "crash -1\n", "crash -0\n", "crash +1\n", "crash 1 \n", "crash  1\n", "crash 1 01\n", "crash 200001\n", "crash 1000000\n", "crash 0200000\n", "crash 1e3\n", "crash 0x10\n", "crash 1_000\n", "crash a\n",
		"crash 18446744073709551616\n", "crash 9223372036854775807\n", "crash -9223372036854775808\n", "crash 4294967296\n", "Crash 1\n", "crash1\n", "crash\t1\n",
		"start \n", " start\n", "start 0\n", "Start\n", "star\n", "starts\n", "start\r\n", "start\v\n", "\xef\xbb\xbfstart\n",
		"begin\n", "2\n", "ask,1,01\n", "ask 1 01;\n", "ask 1 ff\n"[:len("ask 1 ff")] + "\x85\n",
	} {
		if _, ok := wordedAct(line); ok {
			t.Errorf("the worded form takes %q", line)
		}
		reads(t, strconv.Quote(line), line, nil, 0, api.ErrForm)
		reads(t, "others, then "+strconv.Quote(line), "sync\nask 2 \ncrash 3\n"+line, nil, 3, api.ErrForm)
		reads(t, strconv.Quote(line)+", then others", "start\n"+line+"sync\n", nil, 1, api.ErrForm)
		reads(t, "two wrong ones", "start\nsync\n"+line+"x\n"+line, nil, 2, api.ErrForm)
	}
	for _, text := range []string{"sync", "start", "crash 1", "crash 10", "ask 1 01", "ask 1 ", "ask", "s", " ", "x", "\r"} {
		reads(t, strconv.Quote(text)+" without a line feed", text, nil, 0, api.ErrForm)
		reads(t, strconv.Quote(text)+" without a line feed, behind others", "sync\nstart\n"+text, nil, 2, api.ErrForm)
	}
}

// fullText: as many bytes as may be, all of them acts' lines, and those acts.
func fullText() (string, []api.Act) {
	l := slices.Repeat([]api.Act{ask(5, strings.Repeat("\xab", api.MaxData))}, 249)
	l = append(l, ask(6, strings.Repeat("\xef", (api.MaxText-len(wordedText(l))-len("ask 6 \n"))/2)))
	return wordedText(l), l
}

// P10.4: as many bytes and lines as may be, and one more; which error is named first.
func TestReadAtItsLimits(t *testing.T) {
	text, l := fullText()
	if len(text) != api.MaxText {
		t.Fatalf("the full text has %d bytes", len(text))
	}
	reads(t, "as many bytes as may be", text, l, 0, api.OK)
	longer := "sync\n" + text[:len(text)-len("efef\n")] + "\n"
	if _, _, e := Read(longer[5:]); e != api.OK || len(longer) != api.MaxText+1 {
		t.Fatalf("the longer text has %d bytes, %v", len(longer), e)
	}
	reads(t, "a byte more", longer, nil, 0, api.ErrSize)
	reads(t, "a byte more, no line feed", strings.Repeat("x", api.MaxText+1), nil, 0, api.ErrSize)
	reads(t, "a byte more, line feeds alone", strings.Repeat("\n", api.MaxText+1), nil, 0, api.ErrSize)
	reads(t, "as many bytes as may be, no line feed", strings.Repeat("x", api.MaxText), nil, 0, api.ErrForm)
	reads(t, "as many bytes as may be, line feeds alone", strings.Repeat("\n", api.MaxText), nil, 0, api.ErrForm)
	reads(t, "as many digits as may be", "ask 1 "+strings.Repeat("0", api.MaxText-7)+"\n", nil, 0, api.ErrForm)
	reads(t, "a number as long as may be", "crash "+strings.Repeat("1", api.MaxText-7)+"\n", nil, 0, api.ErrForm)

	most := strings.Repeat("sync\n", api.MaxSteps)
	reads(t, "as many lines as may be", most, slices.Repeat([]api.Act{alone(api.Sync)}, api.MaxSteps), 0, api.OK)
	for _, more := range []string{"sync\n", "sync", "x\n", "x", "\n", "ask 8 \n", most} {
		reads(t, "more lines", most+more, nil, api.MaxSteps, api.ErrFull)
	}
	reads(t, "too many lines, the last but one wrong", most[5:]+"x\nsync\n", nil, api.MaxSteps-1, api.ErrForm)
	reads(t, "too many lines, the first one wrong", "\n"+most, nil, 0, api.ErrForm)
	reads(t, "too many lines, and too many bytes", strings.Repeat(most, 5), nil, 0, api.ErrSize)
}

// P10.3: Show tells more than Read takes.
func TestShowTellsLongTexts(t *testing.T) {
	_, l := fullText()
	l = append(l, l...)
	text := wordedText(l)
	shows(t, "many bytes", l, text, 0, api.OK)
	reads(t, "many bytes", text, nil, 0, api.ErrSize)
}

// P10.4: of a line of each kind, each byte put for each other one, each one taken out, and each cut.
func TestEachByteOfALine(t *testing.T) {
	for _, text := range []string{"ask 1 01af\n", "ask 0 \n", "sync\n", "crash 109\n", "crash 0\n", "start\n", "sync\nstart\n"} {
		try := func(changed string) {
			t.Helper()
			want, place, e := wordedRead(changed)
			reads(t, strconv.Quote(changed), changed, want, place, e)
		}
		for i := range text {
			try(text[:i])
			try(text[i:])
			try(text[:i] + text[i+1:])
			for c := range 256 {
				try(text[:i] + string([]byte{byte(c)}) + text[i+1:])
				try(text[:i] + string([]byte{byte(c)}) + text[i:])
			}
		}
	}
}

// spoilt: a text of drawn acts, changed here and there.
func (d *die) spoilt() string {
	text := wordedText(d.acts(5))
	for range d.n(3) {
		i := d.n(len(text) + 1)
		piece := []string{"", " ", "0", "\n", "a", "8", "F", "sync\n", "ask ", "crash ", "start", " 0", "\r"}[d.n(13)]
		text = text[:i] + piece + text[min(len(text), i+d.n(3)):]
	}
	return text
}

// P10.4: Read tells of drawn texts what its words say; what is read is shown as it was.
func TestReadIsShownAsItWas(t *testing.T) {
	d := die(10)
	seen := map[api.Errno]int{}
	for range 40000 {
		text := d.spoilt()
		want, place, e := wordedRead(text)
		reads(t, strconv.Quote(text), text, want, place, e)
		if seen[e]++; e == api.OK {
			got, _, _ := Read(text)
			shows(t, "what was read", got, text, 0, api.OK)
		}
	}
	if seen[api.OK] < 5000 || seen[api.ErrForm] < 5000 {
		t.Errorf("seen: %v", seen)
	}
}

// P10.3: what is shown is read as it was.
func TestShownIsReadAsItWas(t *testing.T) {
	d := die(11)
	seen := map[int]int{}
	for range 5000 {
		l := d.acts(20)
		text := wordedText(l)
		shows(t, "drawn acts", l, text, 0, api.OK)
		reads(t, "drawn acts", text, l, 0, api.OK)
		for _, a := range l {
			seen[a.Kind]++
		}
	}
	for kind := api.Ask; kind <= api.Start; kind++ {
		if seen[kind] < 1000 {
			t.Errorf("the kind %d was seen %d times", kind, seen[kind])
		}
	}
}
