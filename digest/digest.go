// Package digest: digests of 32 bytes.
package digest

import "canopy/api"

// Sum of bytes.
func Sum(b []byte) ([]byte, api.Errno) {
	if len(b) > api.MaxData {
		return nil, api.ErrSize
	}
	var s state
	for rest := pad(b); len(rest) > 0; rest = rest[blockSize:] {
		s.take(rest[:blockSize])
	}
	return s.digest(), api.OK
}

// Parts: the digest of a kind, and of parts, each behind its length.
func Parts(kind byte, parts ...[]byte) ([]byte, api.Errno) {
	joined := []byte{kind}
	for _, part := range parts {
		// Asked part by part, so that no more than MaxData bytes are ever copied.
		if len(part) > api.MaxData-lengthSize-len(joined) {
			return nil, api.ErrSize
		}
		joined = append(joined, byte(len(part)>>8), byte(len(part)))
		joined = append(joined, part...)
	}
	return Sum(joined)
}

const (
	digestSize = 32
	blockSize  = 136 // bytes that are mixed into a state at once
	lengthSize = 2   // bytes that tell the length of a part
	firstPad   = 6   // stands right behind the bytes
	lastPad    = 128 // is put into the last byte
)

// pad always adds a byte: without it, bytes that end with noughts would have the digest of fewer.
func pad(b []byte) []byte {
	padded := make([]byte, (len(b)/blockSize+1)*blockSize)
	copy(padded, b)
	padded[len(b)] = firstPad
	// There may be room for one byte only, which then has both marks.
	padded[len(padded)-1] |= lastPad
	return padded
}
