package tree

import (
	"sort"

	"canopy/api"
	"canopy/digest"
	"canopy/path"
)

// Kinds of digests: each form of a tree has its own, so that none passes for another.
const (
	emptyKind = 0
	pairKind  = 1
	forkKind  = 2
)

// Root: the digest of all pairs.
func Root(l []api.Pair) ([]byte, api.Errno) {
	if e := Check(l); e != api.OK {
		return nil, e
	}
	return root(l)
}

func root(l []api.Pair) ([]byte, api.Errno) {
	switch len(l) {
	case 0:
		return digest.Parts(emptyKind)
	case 1:
		return digest.Parts(pairKind, l[0].Key, l[0].Value)
	}
	bit, side, e := fork(l)
	if e != api.OK {
		return nil, e
	}
	left, e := root(l[:side])
	if e != api.OK {
		return nil, e
	}
	right, e := root(l[side:])
	if e != api.OK {
		return nil, e
	}
	return digest.Parts(forkKind, []byte{byte(bit)}, left, right)
}

// fork: the least bit at which two pairs differ, and how many have 0 there. As pairs rise by their bits, too, no two differ earlier than the first and the last one, and those with 0 stand ahead of those with 1.
func fork(l []api.Pair) (bit, side int, e api.Errno) {
	bit, e = path.Part(l[0].Key, l[len(l)-1].Key)
	if e != api.OK {
		return 0, 0, e
	}
	side = sort.Search(len(l), func(i int) bool {
		one, _ := path.Bit(l[i].Key, bit)
		return one
	})
	return bit, side, api.OK
}
