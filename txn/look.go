package txn

import (
	"bytes"
	"slices"

	"canopy/api"
	"canopy/forest"
	"canopy/tree"
)

// Look a key up: what the transaction has written, or what the forest has.
func Look(l []api.Tenant, t api.Txn, name, key []byte) (api.Finding, bool, api.Errno) {
	if e := checkBoth(l, t); e != api.OK {
		return api.Finding{}, false, e
	}
	// A name or key that may not be is that of no write here: the forest refuses it.
	if at := findWrite(t.Writes, name, key); at != none {
		w := t.Writes[at]
		return api.Finding{Found: !w.Gone, Value: bytes.Clone(w.Value)}, true, api.OK
	}
	found, e := forest.Get(l, name, key)
	return found, false, e
}

// Scan keys: what the forest has, and over it what the transaction has written.
func Scan(l []api.Tenant, t api.Txn, name, from, to []byte) ([]api.Pair, api.Errno) {
	if e := checkBoth(l, t); e != api.OK {
		return nil, e
	}
	out, e := forest.Range(l, name, from, to)
	if e != api.OK {
		return nil, e
	}
	scanned := api.Read{Name: name, Key: from, Wide: true, Last: to}
	for _, w := range t.Writes {
		if !meets(scanned, w) {
			continue
		}
		if out, e = written(out, w); e != api.OK {
			return nil, e
		}
	}
	return out, api.OK
}

// Clash: has a later commit written what the transaction has read?
func Clash(t api.Txn, l []api.Commit) (bool, api.Errno) {
	if e := Check(t); e != api.OK {
		return false, e
	}
	wasRead := func(w api.Write) bool {
		return slices.ContainsFunc(t.Reads, func(r api.Read) bool { return meets(r, w) })
	}
	for _, c := range l {
		if c.Turn > t.Start && slices.ContainsFunc(c.Writes, wasRead) {
			return true, api.OK
		}
	}
	return false, api.OK
}

// checkBoth: what is wrong with the tenants is told ahead of what is wrong with the transaction.
func checkBoth(l []api.Tenant, t api.Txn) api.Errno {
	if e := forest.Check(l); e != api.OK {
		return e
	}
	return Check(t)
}

// meets: is a write where something is read?
func meets(r api.Read, w api.Write) bool {
	last := r.Key
	if r.Wide {
		last = r.Last
	}
	return bytes.Equal(r.Name, w.Name) && bytes.Compare(r.Key, w.Key) <= 0 && bytes.Compare(w.Key, last) <= 0
}

// written: the pairs behind a write to one of their keys.
func written(l []api.Pair, w api.Write) ([]api.Pair, api.Errno) {
	if w.Gone {
		return tree.Delete(l, w.Key)
	}
	return tree.Put(l, api.Pair{Key: w.Key, Value: w.Value})
}
