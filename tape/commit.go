package tape

import (
	"bytes"

	"canopy/api"
	"canopy/forest"
)

// goneMark stands where a value's length would: no value is so long.
const goneMark = 255

// Check a commit.
func Check(c api.Commit) api.Errno {
	if c.Turn < 1 || c.Turn > api.MaxTurns {
		return api.ErrRange
	}
	if len(c.Writes) == 0 {
		return api.ErrSize
	}
	for i, w := range c.Writes {
		if i >= api.MaxWrites {
			return api.ErrSize
		}
		// Without tenants there is room for one write: it is refused for what it is alone.
		if _, e := forest.Apply(nil, []api.Write{w}); e != api.OK {
			return e
		}
	}
	return api.OK
}

// Encode a commit.
func Encode(c api.Commit) ([]byte, api.Errno) {
	if e := Check(c); e != api.OK {
		return nil, e
	}
	out := []byte{byte(c.Turn >> 16), byte(c.Turn >> 8), byte(c.Turn), byte(len(c.Writes))}
	for _, w := range c.Writes {
		out = appendText(out, w.Name)
		out = appendText(out, w.Key)
		if w.Gone {
			out = append(out, goneMark)
		} else {
			out = appendText(out, w.Value)
		}
	}
	return out, api.OK
}

func appendText(out, text []byte) []byte {
	return append(append(out, byte(len(text))), text...)
}

// Decode a commit.
func Decode(b []byte) (api.Commit, api.Errno) {
	if len(b) > api.MaxData {
		return api.Commit{}, api.ErrSize
	}
	r := reader{rest: b}
	c := r.commit()
	if r.short {
		return api.Commit{}, api.ErrShort
	}
	if len(r.rest) > 0 {
		return api.Commit{}, api.ErrForm
	}
	if e := Check(c); e != api.OK {
		return api.Commit{}, e
	}
	return c, api.OK
}

// reader of bytes: once they have ended too early, it tells zeros and nothing.
type reader struct {
	rest  []byte
	short bool
}

func (r *reader) commit() api.Commit {
	c := api.Commit{Turn: r.number()<<16 | r.number()<<8 | r.number()}
	for range r.number() {
		c.Writes = append(c.Writes, r.write())
	}
	return c
}

func (r *reader) write() api.Write {
	w := api.Write{Name: r.text(r.number()), Key: r.text(r.number())}
	size := r.number()
	if size == goneMark {
		w.Gone = true
	} else {
		w.Value = r.text(size)
	}
	return w
}

func (r *reader) number() int {
	b := r.text(1)
	if r.short {
		return 0
	}
	return int(b[0])
}

func (r *reader) text(size int) []byte {
	if r.short || size > len(r.rest) {
		r.short = true
		return nil
	}
	text := bytes.Clone(r.rest[:size])
	r.rest = r.rest[size:]
	return text
}
