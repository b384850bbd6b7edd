package lines

import (
	"bytes"
	"fmt"
	"slices"
	"strings"
	"testing"

	"canopy/api"
)

// roomy: acts with spare room behind the list, and behind the data of each.
func roomy(l []api.Act) []api.Act {
	var out []api.Act
	for _, a := range append(slices.Clone(l), ask(1, "room"), crash(-5)) {
		room := append(bytes.Clone(a.Data), "room"...)
		a.Data = room[:len(a.Data)]
		out = append(out, a)
	}
	return out[:len(l)]
}

// held: all that can be reached from acts, by spare room, too.
func held(l []api.Act) string {
	out := fmt.Sprint(len(l), cap(l))
	for _, a := range l[:cap(l)] {
		out += fmt.Sprint(a.Kind, a.Session, a.Keep, len(a.Data), a.Data[:cap(a.Data)])
	}
	return out
}

// spoil the data of each act with a byte of its own, spare room too; then each must have that still. Then the acts are spoilt.
func spoil(t *testing.T, l []api.Act) {
	t.Helper()
	for i, a := range l[:cap(l)] {
		for k := range a.Data[:cap(a.Data)] {
			a.Data[:cap(a.Data)][k] = byte(i + 1)
		}
	}
	for i, a := range l[:cap(l)] {
		for _, c := range a.Data[:cap(a.Data)] {
			if c != byte(i+1) {
				t.Fatalf("two lists of one answer share memory")
			}
		}
	}
	for i := range l[:cap(l)] {
		l[:cap(l)][i] = alone(-7)
	}
}

// What is handed in stays as it is, its spare room too, and no answer shares memory with another one.
func TestAnswersAreNewMemory(t *testing.T) {
	d := die(12)
	for range 500 {
		l := roomy(d.acts(12))
		before := held(l)
		for _, a := range l {
			Check(a)
		}
		text, _, e := Show(l)
		if e != api.OK || held(l) != before {
			t.Fatalf("%v: what was handed in is changed, or refused: %v", l, e)
		}
		first, _, _ := Read(text)
		second, _, _ := Read(text)
		was := held(second)
		spoil(t, first)
		if held(second) != was {
			t.Fatalf("%q: two answers share memory", text)
		}
		third, _, _ := Read(text)
		if !slices.EqualFunc(third, l, same) || text != wordedText(l) {
			t.Fatalf("%v: something is kept from call to call", l)
		}
	}
}

// A text that was shown stays as it is when the acts change.
func TestShownTextIsNewMemory(t *testing.T) {
	l := []api.Act{ask(1, "abc"), crash(12)}
	text, _, _ := Show(l)
	l[0].Data[0], l[1].Keep = 'x', 99
	if text != "ask 1 616263\ncrash 12\n" {
		t.Errorf("the text is now %q", text)
	}
}

// A wide answer: as many acts as may be, which share one list of data.
func TestWideAnswer(t *testing.T) {
	a := ask(7, string(bytes.Repeat([]byte{0xfe}, 100)))
	text, place, e := Show(slices.Repeat([]api.Act{a}, api.MaxSteps))
	if text != strings.Repeat(wordedLine(a), api.MaxSteps) || place != 0 || e != api.OK {
		t.Fatalf("%d bytes, %d, %v", len(text), place, e)
	}
}
