package wire

import (
	"bytes"
	"testing"

	"canopy/api"
)

// roomy: the bytes, with spare room behind them that has bytes, too.
func roomy(b []byte) []byte {
	room := append(bytes.Clone(b), "room"...)
	return room[:len(b)]
}

func roomyRequest(r api.Request) api.Request {
	return api.Request{Kind: r.Kind, Name: roomy(r.Name), Key: roomy(r.Key), Last: roomy(r.Last), Value: roomy(r.Value)}
}

// lists of bytes that can be reached.
type lists [][]byte

// text of all that is there now, in spare room, too.
func (l lists) text() string {
	var out []byte
	for _, b := range l {
		out = append(append(out, b[:cap(b)]...), '|')
	}
	return string(out)
}

// spoil each list, spare room too, with bytes of its own; then each must have these still.
func (l lists) spoil(t *testing.T) {
	t.Helper()
	for i, b := range l {
		for k := range b[:cap(b)] {
			b[:cap(b)][k] = byte(i + 1)
		}
	}
	for i, b := range l {
		for _, c := range b[:cap(b)] {
			if c != byte(i+1) {
				t.Fatalf("two lists of one answer share memory")
			}
		}
	}
}

// What is handed in stays as it is, its spare room too, and no answer shares memory with it, or with another answer.
func TestAnswersAreNewMemory(t *testing.T) {
	d := die(99)
	for range 500 {
		r := roomyRequest(d.request())
		b := roomy(wordedBytes(r))
		handed := lists{r.Name, r.Key, r.Last, r.Value, b}
		calls := []func() lists{
			func() lists { Check(r); return nil },
			func() lists { out, _ := Encode(r); return lists{out} },
			func() lists { out, _ := Decode(b); return lists{out.Name, out.Key, out.Last, out.Value} },
			func() lists { out, _ := Read(r); return lists{out.Name, out.Key, out.Last} },
			func() lists { out, _ := Write(r); return lists{out.Name, out.Key, out.Value} },
		}
		before := handed.text()
		for i, call := range calls {
			first, second := call(), call()
			was := second.text()
			first.spoil(t)
			if handed.text() != before {
				t.Fatalf("call %d at %v: what was handed in is changed", i, r)
			}
			if second.text() != was {
				t.Fatalf("call %d at %v: two answers share memory", i, r)
			}
		}
	}
}
