package history

import (
	"bytes"
	"cmp"
	"slices"

	"canopy/api"
	"canopy/forest"
)

// Changes from one turn to another one.
func Changes(l []api.Commit, from, to int) ([]api.Write, api.Errno) {
	forests, e := behind(l, from, to)
	if e != api.OK {
		return nil, e
	}
	var out []api.Write
	for _, w := range spots(forests...) {
		was, e := forest.Get(forests[0], w.Name, w.Key)
		if e != api.OK {
			return nil, e
		}
		is, e := forest.Get(forests[1], w.Name, w.Key)
		if e != api.OK {
			return nil, e
		}
		if was.Found != is.Found || !bytes.Equal(was.Value, is.Value) {
			w.Gone, w.Value = !is.Found, is.Value
			out = append(out, w)
		}
	}
	return out, api.OK
}

// spots: each name and key that one of the forests has, once, by names, then by keys.
func spots(forests ...[]api.Tenant) []api.Write {
	var out []api.Write
	for _, f := range forests {
		for _, t := range f {
			for _, p := range t.Pairs {
				out = append(out, api.Write{Name: bytes.Clone(t.Name), Key: bytes.Clone(p.Key)})
			}
		}
	}
	compare := func(a, b api.Write) int {
		return cmp.Or(bytes.Compare(a.Name, b.Name), bytes.Compare(a.Key, b.Key))
	}
	slices.SortFunc(out, compare)
	return slices.CompactFunc(out, func(a, b api.Write) bool { return compare(a, b) == 0 })
}
