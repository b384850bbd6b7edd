package forest

import (
	"bytes"
	"slices"

	"canopy/api"
	"canopy/tree"
)

// Apply writes, one behind the other.
func Apply(l []api.Tenant, ws []api.Write) ([]api.Tenant, api.Errno) {
	if e := Check(l); e != api.OK {
		return nil, e
	}
	if len(ws) > api.MaxWrites {
		return nil, api.ErrSize
	}
	out := cloned(l)
	for _, w := range ws {
		var e api.Errno
		if out, e = written(out, w); e != api.OK {
			return nil, e
		}
	}
	return out, api.OK
}

// written: the tenants behind a write. They may be changed on the way: Apply hands in its own.
func written(l []api.Tenant, w api.Write) ([]api.Tenant, api.Errno) {
	if e := Name(w.Name); e != api.OK {
		return nil, e
	}
	at, next := place(l, w.Name)
	pairs, e := writtenPairs(pairsOf(l[at:next]), w)
	if e != api.OK {
		return nil, e
	}
	if len(pairs) == 0 {
		return slices.Delete(l, at, next), api.OK
	}
	if at == next && len(l) == api.MaxTenants {
		return nil, api.ErrFull
	}
	return slices.Replace(l, at, next, api.Tenant{Name: bytes.Clone(w.Name), Pairs: pairs}), api.OK
}

func writtenPairs(pairs []api.Pair, w api.Write) ([]api.Pair, api.Errno) {
	if !w.Gone {
		return tree.Put(pairs, api.Pair{Key: w.Key, Value: w.Value})
	}
	rest, e := tree.Delete(pairs, w.Key)
	if e == api.OK && len(w.Value) > 0 {
		return nil, api.ErrForm
	}
	return rest, e
}

func cloned(l []api.Tenant) []api.Tenant {
	var out []api.Tenant
	for _, t := range l {
		out = append(out, api.Tenant{Name: bytes.Clone(t.Name), Pairs: clonedPairs(t.Pairs)})
	}
	return out
}

func clonedPairs(l []api.Pair) []api.Pair {
	var out []api.Pair
	for _, p := range l {
		out = append(out, api.Pair{Key: bytes.Clone(p.Key), Value: bytes.Clone(p.Value)})
	}
	return out
}
